/- Cut of the document's disk; no statement of the seat is proved here. -/
import Derived.Test.YtkgenmooepfhjaaEh
import Derived.Test.YtkgenmooepfhjaaGb
import Derived.Deep.LoopGhost
namespace Go.Proofs.Ytkgenmooepfhjaa
open Go.RowKit Go.Maps

set_option maxHeartbeats 1000000 in
theorem rcut_off (r : Nat) (R : RParts) (d : DS) (f n : Int) (w : World) (h : RefP w r R d) (hx : d.off = true ∨ known f = false) :
    Calls Try.prog 33 #[.pointer (some ⟨r, 0, none⟩), .int .i64 f, .int .i64 n] w fun e w' => e = .returned (.int .i64 (if d.off then 4 else 11)) ∧ w' = w := by
  have c7 := h.c7
  clear h
  cases ho : d.off <;> rw [ho] at c7 hx
  · have hk : known f = false := by rcases hx with h | h; cases h; exact h
    clear hx
    by_cases h0 : f < 0
    · go_enter Try.func33, Try.ntmps33
      go_wp2
      go_ret
      exact ⟨rfl, rfl⟩
    · have h1 : 1 < f := by rcases known_false hk with h | h; omega; exact h
      have h0' : decide (f < 0) = false := by simp; omega
      go_enter Try.func33, Try.ntmps33
      go_wp2
      go_ret
      exact ⟨rfl, rfl⟩
  · clear hx
    go_enter Try.func33, Try.ntmps33
    go_wp2
    go_ret
    exact ⟨rfl, rfl⟩

/-- How far the sure ones are filled up. -/
structure CutI (w : World) (r o : Nat) (S : Nat → Prop) (B : RP) (F : FS) (n k : Nat) (B' : RP) (W : World) : Prop where
  rf : RefF W r o (From S w) B' ⟨F.now.take n, F.old.take n ++ List.replicate k noughts, F.dirt.take n⟩
  fr : FFrame w W r o (Mut B)
  mu : ∀ k, Mut B' k → From (Mut B) w k

theorem FFrame.drewF {w w' : World} {p o : Nat} {S : Nat → Prop} (h : FFrame w w' p o S) : FFrame w w'.drew p o S := ⟨h.os, h.tape, h.output, h.size, h.block, h.cell, h.fz⟩
theorem RefF.sameOld {w : World} {r o : Nat} {S : Nat → Prop} {B : RP} {now old old' : List Sec} {dirt : List Bool} (h : RefF w r o S B ⟨now, old, dirt⟩) (e : old' = old) : RefF w r o S B ⟨now, old', dirt⟩ := by subst e; exact h

/-- A sure sector more. -/
theorem cut_step {w2 wr w9 : World} {r o : Nat} {S : Nat → Prop} {B B' : RP} {F : FS} {N j KK c9 : Nat} {a9 : Option Addr} {vz : Value} (hI : CutI w2 r o S B F N j B' wr) (hKK : KK = (F.old.take N ++ List.replicate j noughts).length) (hrl : r < wr.heap.size) (hBW : Below wr.heap.size wr w9)
    (ho9 : w9.ownsRow 0 37 1 (.slice a9 (KK + 1) c9) (KK + 1) (B'.us ++ [vz])) (hz : SecAt w9 (From S w2) vz noughts) (ha9 : ∀ a, a9 = some a → wr.heap.size ≤ a.block) :
    CutI w2 r o S B F N (j + 1) { B' with aS := a9, cS := c9, us := B'.us ++ [vz] } (w9.setCell ⟨r, o + 1, none⟩ (.slice a9 (KK + 1) c9)) := by
  have hrf := hI.rf.later hBW
  have hl : (F.old.take N ++ List.replicate (j + 1) noughts).length = KK + 1 := by rw [hKK]; simp; omega
  have he : F.old.take N ++ List.replicate (j + 1) noughts = (F.old.take N ++ List.replicate j noughts) ++ [noughts] := by rw [List.replicate_succ', List.append_assoc]
  have hno := hrf.newOld (a := a9) (c := c9) (us := B'.us ++ [vz]) (old := F.old.take N ++ List.replicate (j + 1) noughts) (by rw [hl]; exact ho9) (by rw [he]; exact hrf.ao.snoc hz)
    (fun x hx => ⟨Or.inr (Nat.le_trans hI.fr.size (ha9 x hx)), fun y hy e => by have := row_lt1 hI.rf.rn hy; have := ha9 x hx; omega⟩)
  rw [hl] at hno
  exact ⟨hno.1, (hI.fr.later hrl hBW).trans (hno.2.imp (fun k _ hk => hI.mu k hk)), hI.mu⟩

set_option maxHeartbeats 4000000 in
set_option maxRecDepth 20000 in
theorem rcut_0 (r : Nat) (R : RParts) (d : DS) (n : Int) (w : World) (h : RefP w r R d) (ho : d.off = false) (hop : d.ops < 1000000000) :
    Calls Try.prog 33 #[.pointer (some ⟨r, 0, none⟩), .int .i64 0, .int .i64 n] w fun e w' => e = .returned (.int .i64 (cutD d 0 n).1) ∧ (∃ R', RefP w' r R' (cutD d 0 n).2 ∧ RGrew R w R') ∧ DFrame w w' r R.mut := by
  have c7 := h.c7
  rw [ho] at c7
  have H := hid h
  have c0 := h.f0.c0
  have hr2 := h.ok.r2; have hsum := h.ok.sum
  obtain ⟨L, hLL⟩ : ∃ L, L = d.f0.now.length := ⟨_, rfl⟩
  rw [← hLL] at c0
  have hlb : L ≤ 32768 := by omega
  have HLL := hid hLL
  have hcd : cutD d 0 n = if n < 0 ∨ (L : Int) < n then (11, d) else if d.left = 1 then (4, crashD (opsD d) d.keep d.torn) else (0, (tickD d).put 0 (cutF d.f0 n.toNat)) := by
    simp only [cutD, ho, hLL]; rfl
  rw [hcd]
  clear hcd h hsum hr2 hLL
  by_cases h1 : n < 0
  · rw [if_pos (Or.inl h1)]
    go_enter Try.func33, Try.ntmps33
    go_wp2
    go_ret
    exact ⟨rfl, ⟨R, H.out, RGrew.refl _ _⟩, DFrame.refl _ _ _⟩
  · have h1' : decide (n < 0) = false := by simp; omega
    by_cases h2 : (L : Int) < n
    · rw [if_pos (Or.inr h2)]
      go_enter Try.func33, Try.ntmps33
      go_wp2
      go_ret
      exact ⟨rfl, ⟨R, H.out, RGrew.refl _ _⟩, DFrame.refl _ _ _⟩
    · rw [if_neg (by omega)]
      have h2' : decide ((L : Int) < n) = false := by simp; omega
      obtain ⟨N, rfl⟩ := Int.eq_ofNat_of_zero_le (show 0 ≤ n by omega)
      rw [Int.toNat_natCast]
      have hNL : N ≤ L := by omega
      clear h1 h2
      by_cases hl : d.left = 1
      · rw [if_pos hl]
        have CO := hid (rop_crash r R d w H.out ho hl hop)
        go_enter Try.func33, Try.ntmps33
        go_wp2_with (go_at_call 55; refine CO.out.mono ?_; rintro e w2 ⟨rfl, hd, hfr⟩; replace hd := hid hd; replace hfr := hid hfr)
        go_ret
        exact ⟨rfl, hd.out, hfr.out⟩
      · rw [if_neg hl]
        have CO := hid (rop_go r R d w H.out hl hop)
        go_enter Try.func33, Try.ntmps33
        have hcN : (N : Int) ≤ (R.B0.cN : Int) := by
          rcases row_some H.out.f0.rn with ⟨_, h1, h2⟩ | ⟨g, _, h1, _⟩
          · have := HLL.out; omega
          · have := HLL.out; omega
        have hcD : (N : Int) ≤ (R.B0.cD : Int) := by
          have hld := H.out.ok.ok0.ld
          rcases row_some H.out.f0.rd with ⟨_, h1, h2⟩ | ⟨g, _, h1, _⟩
          · have := HLL.out; omega
          · have := HLL.out; omega
        obtain ⟨B, hB⟩ : ∃ B, B = R.B0 := ⟨_, rfl⟩
        obtain ⟨F, hF⟩ : ∃ F, F = d.f0 := ⟨_, rfl⟩
        have HB := hid hB; have HF := hid hF
        rw [← hB] at hcN hcD
        rw [← hB] at c0
        clear hB hF
        go_wp2_with (go_at_call 55; refine CO.out.mono ?_; rintro e w2 ⟨rfl, hd, hfr⟩; have d0 := hd.f0.c0; have d2 := hd.f0.c2; have f0 := hd.fz 1; have f2 := hd.fz (1 + 2); rw [show (tickD d).f0 = d.f0 from rfl, ← HLL.out, ← HB.out] at d0; rw [hd.ok.ok0.ld, show (tickD d).f0 = d.f0 from rfl, ← HLL.out, ← HB.out] at d2; replace hd := hid hd; replace hfr := hid hfr; clear CO)
        go_region
        obtain ⟨W3, hW3⟩ : ∃ W3, W3 = ((w2.setCell ⟨r, 1, none⟩ (.slice B.aN N B.cN)).setCell ⟨r, 1 + 2, none⟩ (.slice B.aD N B.cD)).drew := ⟨_, rfl⟩
        rw [← hW3]
        obtain ⟨OL, hOL⟩ : ∃ OL, OL = F.old.length := ⟨_, rfl⟩
        have HOL := hid hOL
        have HC3 : Hid (RefF W3 r 1 R.S0 { B with vs := B.vs.take N } ⟨F.now.take N, F.old, F.dirt.take N⟩ ∧ FFrame w2 W3 r 1 (Mut B)) := hid (by
          have h0 := hd.out.f0
          rw [show (tickD d).f0 = d.f0 from rfl, ← HF.out, ← HB.out] at h0
          have hlN : F.now.length = L := by rw [HF.out, HLL.out]
          have h1 := h0.cutNow (k := N) (by rw [hlN]; exact hNL)
          have h2 := h1.1.cutDirt (k := N) (by show N ≤ F.dirt.length; rw [HF.out, H.out.ok.ok0.ld, ← HLL.out]; exact hNL)
          rw [hW3]
          exact ⟨h2.1.stay (fun _ _ _ => rfl) (fun _ _ _ => rfl), (h1.2.trans (h2.2.imp (fun _ _ h => Or.inl h))).drewF⟩)
        have e1 := HC3.out.1.c1
        (try simp only at e1)
        rw [← hOL] at e1
        have f1 : W3.frozen? ⟨r, 1 + 1, none⟩ = false := (HC3.out.2.fz _).trans (hd.out.fz _)
        have hcS : OL ≤ B.cS := by
          have := HC3.out.1.rs
          simp only at this
          rw [← hOL] at this
          rcases row_some this with ⟨_, h1, h2⟩ | ⟨g, _, h1, _⟩
          · omega
          · exact h1
        clear hW3 hOL d0 d2 f0 f2
        go_upto_if 66 with (fail)
        go_cut [] from 60 to 75 (fun W => Hid (∃ B', CutI w2 r 1 R.S0 B F N 0 B' W))
        case first =>
          by_cases hE : N < OL
          · have hE' : (N : Int) < (OL : Int) := by omega
            have hcSI : (N : Int) ≤ (B.cS : Int) := by omega
            have hcut' := hid (HC3.out.1.cutOld (k := N) (by show N ≤ F.old.length; rw [← HOL.out]; omega))
            go_wp2
            go_meet
            case rel =>
              refine hid ⟨_, (hcut'.out.1.imp (fun _ _ h => Or.inl h) ?_).sameOld (by simp), HC3.out.2.trans (hcut'.out.2.imp (fun k _ hk => Or.inl hk)), fun k hk => Or.inl hk⟩
              rintro (h | h)
              · exact HC3.out.1.np h
              · have := hd.out.rlt; omega
          · have hE' : ¬ ((N : Int) < (OL : Int)) := by omega
            go_wp2
            go_meet
            case rel =>
              refine hid ⟨_, (HC3.out.1.imp (fun _ _ h => Or.inl h) ?_).sameOld (by simp; rw [List.take_of_length_le (by rw [← HOL.out]; omega)]), HC3.out.2, fun k hk => Or.inl hk⟩
              rintro (h | h)
              · exact HC3.out.1.np h
              · have := hd.out.rlt; omega
        case rest =>
          have HCUT := hcut
          clear hcut e1 f1 HC3 hcS
          go_wp2_with fail
          go_loopg [] (N - OL) (fun k W => ∃ (j : Nat) (B' : RP), j + k = N - OL ∧ Hid (CutI w2 r 1 R.S0 B F N j B' W))
          case atStart => obtain ⟨B', hB'⟩ := HCUT.out; exact ⟨0, B', by omega, hid hB'⟩
          case round =>
            obtain ⟨j, B', hj, hI⟩ := hrel
            obtain ⟨KK, hKK⟩ : ∃ KK, KK = (F.old.take N ++ List.replicate j noughts).length := ⟨_, rfl⟩
            have hKN : KK = min N OL + j := by rw [hKK]; simp [HOL.out]
            have HKK := hid hKK; have HKN := hid hKN
            have e1 := hI.out.rf.c1
            (try simp only at e1)
            rw [← hKK] at e1
            have HE1 := hid e1
            have f1 : wr.frozen? ⟨r, 1 + 1, none⟩ = false := (hI.out.fr.fz _).trans (hd.out.fz _)
            have hrl : r < wr.heap.size := hI.out.rf.plt
            have RS := hid hI.out.rf.rs
            (try simp only at RS)
            rw [← hKK] at RS
            have HONE := hid hI.out.rf.ao.one
            clear hKK hKN
            by_cases hkN : KK < N
            · have hkN' : (KK : Int) < (N : Int) := by omega
              have mk : ∀ W : World, (Instr.makeSlice 37 (.int .i64 128) (.int .i64 128)).run Try.prog W = .ok (.slice (some ⟨W.heap.size, 0, none⟩) 128 128) (W.alloc (.cells (Array.replicate 128 (.int .u8 0)) 5)) := fun W => make_any 128 128 (Nat.le_refl _) (by omega) W
              go_wp2_with fail
              refine wp_region_K (S := Reads1 ⟨r, 1 + 1, none⟩ (.slice B'.aS KK B'.cS)) (fun i => i == 12) (by kernel_rfl) ⟨e1, trivial⟩ (fun hHeld => ?_)
              obtain ⟨W0, hW0⟩ : ∃ W0, W0 = wr.drew := ⟨_, rfl⟩
              rw [← hW0] at hHeld ⊢
              have hR := hHeld
              have hBW : Below wr.heap.size wr W0 := by rw [hW0]; exact (Below.refl _ _).drew
              clear hW0
              refine wpAnyK_pure (i := 0) (v := ?_) (op_at _ 0 _ rfl) (by kernel_rfl) (by kernel_rfl) (by kernel_rfl) (by kernel_rfl) (fun _ _ _ h => h) (Or.inl ⟨by rfl, ?_⟩) (Or.inl (by assumption)) ?_
              rotate_left 1
              focus (intro W hSw; go_simp; first | done | with_reducible rfl)
              (try simp only [Act.put, List.setIfInBounds_toArray, List.set_cons_zero, List.set_cons_succ])
              refine wpAnyK_pure (i := 2) (v := ?_) (op_at _ 2 _ rfl) (by kernel_rfl) (by kernel_rfl) (by kernel_rfl) (by kernel_rfl) (fun _ _ _ h => h) (Or.inl ⟨by rfl, ?_⟩) (Or.inl (by assumption)) ?_
              rotate_left 1
              focus (intro W hSw; go_simp; first | done | with_reducible rfl)
              (try simp only [Act.put, List.setIfInBounds_toArray, List.set_cons_zero, List.set_cons_succ])
              refine wpAnyK_pure (i := 3) (v := ?_) (op_at _ 3 _ rfl) (by kernel_rfl) (by kernel_rfl) (by kernel_rfl) (by kernel_rfl) (fun _ _ _ h => h) (Or.inl ⟨by rfl, ?_⟩) (Or.inl (by assumption)) ?_
              rotate_left 1
              focus (intro W hSw; go_simp; first | done | with_reducible rfl)
              (try simp only [Act.put, List.setIfInBounds_toArray, List.set_cons_zero, List.set_cons_succ])
              refine wpAnyK_pure (i := 4) (v := ?_) (op_at _ 4 _ rfl) (by kernel_rfl) (by kernel_rfl) (by kernel_rfl) (by kernel_rfl) (fun _ _ _ h => h) (Or.inl ⟨by rfl, ?_⟩) (Or.inl (by assumption)) ?_
              rotate_left 1
              focus (intro W hSw; go_simp; first | done | with_reducible rfl)
              (try simp only [Act.put, List.setIfInBounds_toArray, List.set_cons_zero, List.set_cons_succ])
              refine wpAnyK_take (i := 5) (v := ?_) (op_at _ 5 _ rfl) (by kernel_rfl) (by kernel_rfl) (by kernel_rfl) (by kernel_rfl) (fun _ _ _ h => h) (Or.inl ⟨by rfl, ?_⟩) (by assumption) ?_
              rotate_left 1
              focus (intro W hSw; obtain ⟨q0, _⟩ := hSw; go_simp; first | done | with_reducible rfl)
              (try simp only [Act.put, List.setIfInBounds_toArray, List.set_cons_zero, List.set_cons_succ])
              refine wpAnyK_ready (rs := [1, 7]) (by kernel_rfl) (by simp) ?_
              refine AllReadyK.cons (op_at _ 1 _ rfl) (fun K hK => ?_) ?_
              · go_simp
                obtain ⟨W1, hW1⟩ : ∃ W', W' = W0.alloc (.cells #[] 37) := ⟨_, rfl⟩; rw [← hW1]; have hbW1 : Below W0.heap.size W0 W1 := (by rw [hW1]; exact (Below.refl _ _).alloc (Nat.le_refl _) _); have HSW1 : Hid (W1.heap.size = W0.heap.size + 1) := hid (by rw [hW1]; simp); have hlW1 : wr.heap.size ≤ W0.heap.size := hBW.size; have hA : W1.ownsRow 0 37 1 (.slice (some ⟨W0.heap.size, 0, none⟩) 0 0) 0 [] := (by rw [hW1]; exact World.ownsRow_made W0 #[] 0 (Nat.zero_le _) (by decide) rfl); replace hBW := hBW.trans (hbW1.mono hBW.size); replace hR := hR.keep hbW1; clear hW1
                refine hK.out _ _ hR (fun hHeld => ?_)
                clear hK K
                (try simp only [Act.put, List.setIfInBounds_toArray, List.set_cons_zero, List.set_cons_succ])
                refine wpAnyK_ready (rs := [6, 7]) (by kernel_rfl) (by simp) ?_
                refine AllReadyK.cons (op_at _ 6 _ rfl) (fun K hK => ?_) ?_
                · refine step_app rfl (.tmp 84) (.tmp 88) el66 rfl (.slice (some ⟨W0.heap.size, 0, none⟩) 0 0) 0 [] rfl hA B'.aS KK B'.cS B'.us rfl (src_row (own_later RS.out hBW) HONE.out) (by omega) ?_; simp only [Nat.zero_add, List.nil_append]; intro a6 c6 W2 ho6 hg6 hat6; have hl6 := hBW.size; have ha6 : ∀ k, (Value.slice a6 KK c6).ownBlock = some k → wr.heap.size ≤ k := (fun k hk => by obtain ⟨y, hy, rfl⟩ := slice_own hk; rcases hat6 y hy with h | h; simp only [Value.ownBlock, Option.some.injEq] at h; omega; omega); have hz6 : W1.heap.size ≤ W2.heap.size := hg6.size; replace hBW := hBW.grown hg6 hBW.size (fun k hk => by simp only [Value.ownBlock, Option.some.injEq] at hk; omega); replace hR : Reads1 ⟨r, 1 + 1, none⟩ (.slice B'.aS KK B'.cS) W2 := ⟨keep_old hBW HE1.out, trivial⟩; clear hat6 hg6 hA
                  refine hK.out _ _ hR (fun hHeld => ?_)
                  clear hK K
                  (try simp only [Act.put, List.setIfInBounds_toArray, List.set_cons_zero, List.set_cons_succ])
                  refine wpAnyK_ready (rs := [7]) (by kernel_rfl) (by simp) ?_
                  refine AllReadyK.cons (op_at _ 7 _ rfl) (fun K hK => ?_) AllReadyK.nil
                  go_simp
                  obtain ⟨W3, hW3⟩ : ∃ W', W' = W2.alloc (.cells (Array.replicate 128 (.int .u8 0)) 5) := ⟨_, rfl⟩; rw [← hW3]; have hbW3 : Below W2.heap.size W2 W3 := (by rw [hW3]; exact (Below.refl _ _).alloc (Nat.le_refl _) _); have HSW3 : Hid (W3.heap.size = W2.heap.size + 1) := hid (by rw [hW3]; simp); have hlW3 : wr.heap.size ≤ W2.heap.size := hBW.size; replace ho6 := own_later ho6 hbW3; have hZ : W3.ownsRow 0 5 1 (.slice (some ⟨W2.heap.size, 0, none⟩) 128 128) 128 (bs noughts) := (by rw [hW3]; exact ⟨by simp [bs, noughts], .inr ⟨_, _, _, rfl, Nat.zero_le _, heap_alloc_new _ _, Nat.le_refl _, by decide, by simp, by simp [bs, noughts]⟩⟩); replace hBW := hBW.trans (hbW3.mono hBW.size); replace hR := hR.keep hbW3; clear hW3
                  refine hK.out _ _ hR (fun hHeld => ?_)
                  clear hK K
                  (try simp only [Act.put, List.setIfInBounds_toArray, List.set_cons_zero, List.set_cons_succ])
                  refine wpAnyK_ready (rs := [8]) (by kernel_rfl) (by simp) ?_
                  refine AllReadyK.cons (op_at _ 8 _ rfl) (fun K hK => ?_) AllReadyK.nil
                  go_simp
                  obtain ⟨W4, hW4⟩ : ∃ W', W' = W3.alloc (.cells #[.slice (some ⟨W2.heap.size, 0, none⟩) 128 128] 37) := ⟨_, rfl⟩; rw [← hW4]; have hbW4 : Below W3.heap.size W3 W4 := (by rw [hW4]; exact (Below.refl _ _).alloc (Nat.le_refl _) _); have HSW4 : Hid (W4.heap.size = W3.heap.size + 1) := hid (by rw [hW4]; simp); have hlW4 : wr.heap.size ≤ W3.heap.size := hBW.size; replace hZ := own_later hZ hbW4; replace ho6 := own_later ho6 hbW4; have hL : W4.ownsRow 0 37 1 (.slice (some ⟨W3.heap.size, 0, none⟩) 1 1) 1 [.slice (some ⟨W2.heap.size, 0, none⟩) 128 128] := (by rw [hW4]; exact own_lit W3 37 _); replace hBW := hBW.trans (hbW4.mono hBW.size); replace hR := hR.keep hbW4; clear hW4
                  refine hK.out _ _ hR (fun hHeld => ?_)
                  clear hK K
                  (try simp only [Act.put, List.setIfInBounds_toArray, List.set_cons_zero, List.set_cons_succ])
                  refine wpAnyK_ready (rs := [9]) (by kernel_rfl) (by simp) ?_
                  refine AllReadyK.cons (op_at _ 9 _ rfl) (fun K hK => ?_) AllReadyK.nil
                  refine step_app rfl (.tmp 89) (.tmp 91) el66 rfl (.slice a6 KK c6) KK B'.us rfl ho6 (some ⟨W3.heap.size, 0, none⟩) 1 1 [.slice (some ⟨W2.heap.size, 0, none⟩) 128 128] rfl (src_row hL (by intro u hu; simp at hu; subst hu; rfl)) (by omega) ?_; intro a9 c9 w9 ho9 hg9 hat9; have hl9 := hBW.size; replace hZ := own_beside hZ hg9 (fun k hk e => own_ne hZ ho6 (by decide) hk e.symm rfl); have ha9 : ∀ a, a9 = some a → wr.heap.size ≤ a.block := (fun a ha => by rcases hat9 a ha with h | h; exact ha6 _ h; omega); replace hBW := hBW.grown hg9 hBW.size ha6; replace hR : Reads1 ⟨r, 1 + 1, none⟩ (.slice B'.aS KK B'.cS) w9 := ⟨keep_old hBW HE1.out, trivial⟩; have e9 := hR.1; have f9 : w9.frozen? ⟨r, 1 + 1, none⟩ = false := (keep_frozen hBW hrl).trans f1; have HNO := hid (cut_step hI.out HKK.out hrl hBW ho9 (sec_new hZ (fun y hy => by cases hy; have := hI.out.fr.size; show w2.heap.size ≤ W2.heap.size; omega)) ha9); clear ho9 hg9 hat9 hL ho6 ha6
                  refine hK.out _ _ hR (fun hHeld => ?_)
                  clear hK K
                  (try simp only [Act.put, List.setIfInBounds_toArray, List.set_cons_zero, List.set_cons_succ])
                  refine wpAnyK_pure (i := 10) (v := ?_) (op_at _ 10 _ rfl) (by kernel_rfl) (by kernel_rfl) (by kernel_rfl) (by kernel_rfl) (fun _ _ _ h => h) (Or.inl ⟨by rfl, ?_⟩) (Or.inl (by assumption)) ?_
                  rotate_left 1
                  focus (intro W hSw; go_simp; first | done | with_reducible rfl)
                  (try simp only [Act.put, List.setIfInBounds_toArray, List.set_cons_zero, List.set_cons_succ])
                  refine wpAnyK_pure (i := 11) (v := ?_) (op_at _ 11 _ rfl) (by kernel_rfl) (by kernel_rfl) (by kernel_rfl) (by kernel_rfl) (fun _ _ _ h => h) (Or.inl ⟨by rfl, ?_⟩) (Or.inl (by assumption)) ?_
                  rotate_left 1
                  focus (intro W hSw; go_simp; first | done | with_reducible rfl)
                  (try simp only [Act.put, List.setIfInBounds_toArray, List.set_cons_zero, List.set_cons_succ])
                  refine wpAnyK_ready (rs := [12]) (by kernel_rfl) (by simp) ?_
                  refine AllReadyK.late (op_at _ 12 _ rfl) (by kernel_rfl) (fun K hK => ?_) AllReadyK.nil
                  go_simp
                  refine hK.out _ _ ?_
                  clear hK K
                  (try simp only [Act.put, List.setIfInBounds_toArray, List.set_cons_zero, List.set_cons_succ])
                  refine wpAnyK_done (by kernel_rfl) ?_ _
                  obtain ⟨W10, hW10⟩ : ∃ W', W' = w9.setCell ⟨r, 1 + 1, none⟩ (.slice a9 (KK + 1) c9) := ⟨_, rfl⟩
                  rw [← hW10] at HNO ⊢
                  go_wp2
                  go_roundg (gk - 1)
                  case measure => have := HKN.out; omega
                  case rel => exact ⟨j + 1, _, by have := HKN.out; omega, HNO⟩
                refine AllReadyK.cons (op_at _ 7 _ rfl) (fun K hK => ?_) ?_
                · go_simp
                  obtain ⟨W2, hW2⟩ : ∃ W', W' = W1.alloc (.cells (Array.replicate 128 (.int .u8 0)) 5) := ⟨_, rfl⟩; rw [← hW2]; have hbW2 : Below W1.heap.size W1 W2 := (by rw [hW2]; exact (Below.refl _ _).alloc (Nat.le_refl _) _); have HSW2 : Hid (W2.heap.size = W1.heap.size + 1) := hid (by rw [hW2]; simp); have hlW2 : wr.heap.size ≤ W1.heap.size := hBW.size; replace hA := own_later hA hbW2; have hZ : W2.ownsRow 0 5 1 (.slice (some ⟨W1.heap.size, 0, none⟩) 128 128) 128 (bs noughts) := (by rw [hW2]; exact ⟨by simp [bs, noughts], .inr ⟨_, _, _, rfl, Nat.zero_le _, heap_alloc_new _ _, Nat.le_refl _, by decide, by simp, by simp [bs, noughts]⟩⟩); replace hBW := hBW.trans (hbW2.mono hBW.size); replace hR := hR.keep hbW2; clear hW2
                  refine hK.out _ _ hR (fun hHeld => ?_)
                  clear hK K
                  (try simp only [Act.put, List.setIfInBounds_toArray, List.set_cons_zero, List.set_cons_succ])
                  refine wpAnyK_ready (rs := [6, 8]) (by kernel_rfl) (by simp) ?_
                  refine AllReadyK.cons (op_at _ 6 _ rfl) (fun K hK => ?_) ?_
                  · refine step_app rfl (.tmp 84) (.tmp 88) el66 rfl (.slice (some ⟨W0.heap.size, 0, none⟩) 0 0) 0 [] rfl hA B'.aS KK B'.cS B'.us rfl (src_row (own_later RS.out hBW) HONE.out) (by omega) ?_; simp only [Nat.zero_add, List.nil_append]; intro a6 c6 W3 ho6 hg6 hat6; have hl6 := hBW.size; have ha6 : ∀ k, (Value.slice a6 KK c6).ownBlock = some k → wr.heap.size ≤ k := (fun k hk => by obtain ⟨y, hy, rfl⟩ := slice_own hk; rcases hat6 y hy with h | h; simp only [Value.ownBlock, Option.some.injEq] at h; omega; omega); replace hZ := own_beside hZ hg6 (fun k hk e => own_ne hZ hA (by decide) hk e.symm rfl); have hz6 : W2.heap.size ≤ W3.heap.size := hg6.size; replace hBW := hBW.grown hg6 hBW.size (fun k hk => by simp only [Value.ownBlock, Option.some.injEq] at hk; omega); replace hR : Reads1 ⟨r, 1 + 1, none⟩ (.slice B'.aS KK B'.cS) W3 := ⟨keep_old hBW HE1.out, trivial⟩; clear hat6 hg6 hA
                    refine hK.out _ _ hR (fun hHeld => ?_)
                    clear hK K
                    (try simp only [Act.put, List.setIfInBounds_toArray, List.set_cons_zero, List.set_cons_succ])
                    refine wpAnyK_ready (rs := [8]) (by kernel_rfl) (by simp) ?_
                    refine AllReadyK.cons (op_at _ 8 _ rfl) (fun K hK => ?_) AllReadyK.nil
                    go_simp
                    obtain ⟨W4, hW4⟩ : ∃ W', W' = W3.alloc (.cells #[.slice (some ⟨W1.heap.size, 0, none⟩) 128 128] 37) := ⟨_, rfl⟩; rw [← hW4]; have hbW4 : Below W3.heap.size W3 W4 := (by rw [hW4]; exact (Below.refl _ _).alloc (Nat.le_refl _) _); have HSW4 : Hid (W4.heap.size = W3.heap.size + 1) := hid (by rw [hW4]; simp); have hlW4 : wr.heap.size ≤ W3.heap.size := hBW.size; replace hZ := own_later hZ hbW4; replace ho6 := own_later ho6 hbW4; have hL : W4.ownsRow 0 37 1 (.slice (some ⟨W3.heap.size, 0, none⟩) 1 1) 1 [.slice (some ⟨W1.heap.size, 0, none⟩) 128 128] := (by rw [hW4]; exact own_lit W3 37 _); replace hBW := hBW.trans (hbW4.mono hBW.size); replace hR := hR.keep hbW4; clear hW4
                    refine hK.out _ _ hR (fun hHeld => ?_)
                    clear hK K
                    (try simp only [Act.put, List.setIfInBounds_toArray, List.set_cons_zero, List.set_cons_succ])
                    refine wpAnyK_ready (rs := [9]) (by kernel_rfl) (by simp) ?_
                    refine AllReadyK.cons (op_at _ 9 _ rfl) (fun K hK => ?_) AllReadyK.nil
                    refine step_app rfl (.tmp 89) (.tmp 91) el66 rfl (.slice a6 KK c6) KK B'.us rfl ho6 (some ⟨W3.heap.size, 0, none⟩) 1 1 [.slice (some ⟨W1.heap.size, 0, none⟩) 128 128] rfl (src_row hL (by intro u hu; simp at hu; subst hu; rfl)) (by omega) ?_; intro a9 c9 w9 ho9 hg9 hat9; have hl9 := hBW.size; replace hZ := own_beside hZ hg9 (fun k hk e => own_ne hZ ho6 (by decide) hk e.symm rfl); have ha9 : ∀ a, a9 = some a → wr.heap.size ≤ a.block := (fun a ha => by rcases hat9 a ha with h | h; exact ha6 _ h; omega); replace hBW := hBW.grown hg9 hBW.size ha6; replace hR : Reads1 ⟨r, 1 + 1, none⟩ (.slice B'.aS KK B'.cS) w9 := ⟨keep_old hBW HE1.out, trivial⟩; have e9 := hR.1; have f9 : w9.frozen? ⟨r, 1 + 1, none⟩ = false := (keep_frozen hBW hrl).trans f1; have HNO := hid (cut_step hI.out HKK.out hrl hBW ho9 (sec_new hZ (fun y hy => by cases hy; have := hI.out.fr.size; show w2.heap.size ≤ W1.heap.size; omega)) ha9); clear ho9 hg9 hat9 hL ho6 ha6
                    refine hK.out _ _ hR (fun hHeld => ?_)
                    clear hK K
                    (try simp only [Act.put, List.setIfInBounds_toArray, List.set_cons_zero, List.set_cons_succ])
                    refine wpAnyK_pure (i := 10) (v := ?_) (op_at _ 10 _ rfl) (by kernel_rfl) (by kernel_rfl) (by kernel_rfl) (by kernel_rfl) (fun _ _ _ h => h) (Or.inl ⟨by rfl, ?_⟩) (Or.inl (by assumption)) ?_
                    rotate_left 1
                    focus (intro W hSw; go_simp; first | done | with_reducible rfl)
                    (try simp only [Act.put, List.setIfInBounds_toArray, List.set_cons_zero, List.set_cons_succ])
                    refine wpAnyK_pure (i := 11) (v := ?_) (op_at _ 11 _ rfl) (by kernel_rfl) (by kernel_rfl) (by kernel_rfl) (by kernel_rfl) (fun _ _ _ h => h) (Or.inl ⟨by rfl, ?_⟩) (Or.inl (by assumption)) ?_
                    rotate_left 1
                    focus (intro W hSw; go_simp; first | done | with_reducible rfl)
                    (try simp only [Act.put, List.setIfInBounds_toArray, List.set_cons_zero, List.set_cons_succ])
                    refine wpAnyK_ready (rs := [12]) (by kernel_rfl) (by simp) ?_
                    refine AllReadyK.late (op_at _ 12 _ rfl) (by kernel_rfl) (fun K hK => ?_) AllReadyK.nil
                    go_simp
                    refine hK.out _ _ ?_
                    clear hK K
                    (try simp only [Act.put, List.setIfInBounds_toArray, List.set_cons_zero, List.set_cons_succ])
                    refine wpAnyK_done (by kernel_rfl) ?_ _
                    obtain ⟨W10, hW10⟩ : ∃ W', W' = w9.setCell ⟨r, 1 + 1, none⟩ (.slice a9 (KK + 1) c9) := ⟨_, rfl⟩
                    rw [← hW10] at HNO ⊢
                    go_wp2
                    go_roundg (gk - 1)
                    case measure => have := HKN.out; omega
                    case rel => exact ⟨j + 1, _, by have := HKN.out; omega, HNO⟩
                  refine AllReadyK.cons (op_at _ 8 _ rfl) (fun K hK => ?_) ?_
                  · go_simp
                    obtain ⟨W3, hW3⟩ : ∃ W', W' = W2.alloc (.cells #[.slice (some ⟨W1.heap.size, 0, none⟩) 128 128] 37) := ⟨_, rfl⟩; rw [← hW3]; have hbW3 : Below W2.heap.size W2 W3 := (by rw [hW3]; exact (Below.refl _ _).alloc (Nat.le_refl _) _); have HSW3 : Hid (W3.heap.size = W2.heap.size + 1) := hid (by rw [hW3]; simp); have hlW3 : wr.heap.size ≤ W2.heap.size := hBW.size; replace hA := own_later hA hbW3; replace hZ := own_later hZ hbW3; have hL : W3.ownsRow 0 37 1 (.slice (some ⟨W2.heap.size, 0, none⟩) 1 1) 1 [.slice (some ⟨W1.heap.size, 0, none⟩) 128 128] := (by rw [hW3]; exact own_lit W2 37 _); replace hBW := hBW.trans (hbW3.mono hBW.size); replace hR := hR.keep hbW3; clear hW3
                    refine hK.out _ _ hR (fun hHeld => ?_)
                    clear hK K
                    (try simp only [Act.put, List.setIfInBounds_toArray, List.set_cons_zero, List.set_cons_succ])
                    refine wpAnyK_ready (rs := [6]) (by kernel_rfl) (by simp) ?_
                    refine AllReadyK.cons (op_at _ 6 _ rfl) (fun K hK => ?_) AllReadyK.nil
                    refine step_app rfl (.tmp 84) (.tmp 88) el66 rfl (.slice (some ⟨W0.heap.size, 0, none⟩) 0 0) 0 [] rfl hA B'.aS KK B'.cS B'.us rfl (src_row (own_later RS.out hBW) HONE.out) (by omega) ?_; simp only [Nat.zero_add, List.nil_append]; intro a6 c6 W4 ho6 hg6 hat6; have hl6 := hBW.size; have ha6 : ∀ k, (Value.slice a6 KK c6).ownBlock = some k → wr.heap.size ≤ k := (fun k hk => by obtain ⟨y, hy, rfl⟩ := slice_own hk; rcases hat6 y hy with h | h; simp only [Value.ownBlock, Option.some.injEq] at h; omega; omega); replace hL := own_beside hL hg6 (fun k hk e => by simp only [Value.ownBlock, Option.some.injEq] at hk e; have qW1 := HSW1.out; have qW2 := HSW2.out; have qW3 := HSW3.out; omega); replace hZ := own_beside hZ hg6 (fun k hk e => own_ne hZ hA (by decide) hk e.symm rfl); have hz6 : W3.heap.size ≤ W4.heap.size := hg6.size; replace hBW := hBW.grown hg6 hBW.size (fun k hk => by simp only [Value.ownBlock, Option.some.injEq] at hk; omega); replace hR : Reads1 ⟨r, 1 + 1, none⟩ (.slice B'.aS KK B'.cS) W4 := ⟨keep_old hBW HE1.out, trivial⟩; clear hat6 hg6 hA
                    refine hK.out _ _ hR (fun hHeld => ?_)
                    clear hK K
                    (try simp only [Act.put, List.setIfInBounds_toArray, List.set_cons_zero, List.set_cons_succ])
                    refine wpAnyK_ready (rs := [9]) (by kernel_rfl) (by simp) ?_
                    refine AllReadyK.cons (op_at _ 9 _ rfl) (fun K hK => ?_) AllReadyK.nil
                    refine step_app rfl (.tmp 89) (.tmp 91) el66 rfl (.slice a6 KK c6) KK B'.us rfl ho6 (some ⟨W2.heap.size, 0, none⟩) 1 1 [.slice (some ⟨W1.heap.size, 0, none⟩) 128 128] rfl (src_row hL (by intro u hu; simp at hu; subst hu; rfl)) (by omega) ?_; intro a9 c9 w9 ho9 hg9 hat9; have hl9 := hBW.size; replace hZ := own_beside hZ hg9 (fun k hk e => own_ne hZ ho6 (by decide) hk e.symm rfl); have ha9 : ∀ a, a9 = some a → wr.heap.size ≤ a.block := (fun a ha => by rcases hat9 a ha with h | h; exact ha6 _ h; omega); replace hBW := hBW.grown hg9 hBW.size ha6; replace hR : Reads1 ⟨r, 1 + 1, none⟩ (.slice B'.aS KK B'.cS) w9 := ⟨keep_old hBW HE1.out, trivial⟩; have e9 := hR.1; have f9 : w9.frozen? ⟨r, 1 + 1, none⟩ = false := (keep_frozen hBW hrl).trans f1; have HNO := hid (cut_step hI.out HKK.out hrl hBW ho9 (sec_new hZ (fun y hy => by cases hy; have := hI.out.fr.size; show w2.heap.size ≤ W1.heap.size; omega)) ha9); clear ho9 hg9 hat9 hL ho6 ha6
                    refine hK.out _ _ hR (fun hHeld => ?_)
                    clear hK K
                    (try simp only [Act.put, List.setIfInBounds_toArray, List.set_cons_zero, List.set_cons_succ])
                    refine wpAnyK_pure (i := 10) (v := ?_) (op_at _ 10 _ rfl) (by kernel_rfl) (by kernel_rfl) (by kernel_rfl) (by kernel_rfl) (fun _ _ _ h => h) (Or.inl ⟨by rfl, ?_⟩) (Or.inl (by assumption)) ?_
                    rotate_left 1
                    focus (intro W hSw; go_simp; first | done | with_reducible rfl)
                    (try simp only [Act.put, List.setIfInBounds_toArray, List.set_cons_zero, List.set_cons_succ])
                    refine wpAnyK_pure (i := 11) (v := ?_) (op_at _ 11 _ rfl) (by kernel_rfl) (by kernel_rfl) (by kernel_rfl) (by kernel_rfl) (fun _ _ _ h => h) (Or.inl ⟨by rfl, ?_⟩) (Or.inl (by assumption)) ?_
                    rotate_left 1
                    focus (intro W hSw; go_simp; first | done | with_reducible rfl)
                    (try simp only [Act.put, List.setIfInBounds_toArray, List.set_cons_zero, List.set_cons_succ])
                    refine wpAnyK_ready (rs := [12]) (by kernel_rfl) (by simp) ?_
                    refine AllReadyK.late (op_at _ 12 _ rfl) (by kernel_rfl) (fun K hK => ?_) AllReadyK.nil
                    go_simp
                    refine hK.out _ _ ?_
                    clear hK K
                    (try simp only [Act.put, List.setIfInBounds_toArray, List.set_cons_zero, List.set_cons_succ])
                    refine wpAnyK_done (by kernel_rfl) ?_ _
                    obtain ⟨W10, hW10⟩ : ∃ W', W' = w9.setCell ⟨r, 1 + 1, none⟩ (.slice a9 (KK + 1) c9) := ⟨_, rfl⟩
                    rw [← hW10] at HNO ⊢
                    go_wp2
                    go_roundg (gk - 1)
                    case measure => have := HKN.out; omega
                    case rel => exact ⟨j + 1, _, by have := HKN.out; omega, HNO⟩
                  exact AllReadyK.nil
                exact AllReadyK.nil
              refine AllReadyK.cons (op_at _ 7 _ rfl) (fun K hK => ?_) ?_
              · go_simp
                obtain ⟨W1, hW1⟩ : ∃ W', W' = W0.alloc (.cells (Array.replicate 128 (.int .u8 0)) 5) := ⟨_, rfl⟩; rw [← hW1]; have hbW1 : Below W0.heap.size W0 W1 := (by rw [hW1]; exact (Below.refl _ _).alloc (Nat.le_refl _) _); have HSW1 : Hid (W1.heap.size = W0.heap.size + 1) := hid (by rw [hW1]; simp); have hlW1 : wr.heap.size ≤ W0.heap.size := hBW.size; have hZ : W1.ownsRow 0 5 1 (.slice (some ⟨W0.heap.size, 0, none⟩) 128 128) 128 (bs noughts) := (by rw [hW1]; exact ⟨by simp [bs, noughts], .inr ⟨_, _, _, rfl, Nat.zero_le _, heap_alloc_new _ _, Nat.le_refl _, by decide, by simp, by simp [bs, noughts]⟩⟩); replace hBW := hBW.trans (hbW1.mono hBW.size); replace hR := hR.keep hbW1; clear hW1
                refine hK.out _ _ hR (fun hHeld => ?_)
                clear hK K
                (try simp only [Act.put, List.setIfInBounds_toArray, List.set_cons_zero, List.set_cons_succ])
                refine wpAnyK_ready (rs := [1, 8]) (by kernel_rfl) (by simp) ?_
                refine AllReadyK.cons (op_at _ 1 _ rfl) (fun K hK => ?_) ?_
                · go_simp
                  obtain ⟨W2, hW2⟩ : ∃ W', W' = W1.alloc (.cells #[] 37) := ⟨_, rfl⟩; rw [← hW2]; have hbW2 : Below W1.heap.size W1 W2 := (by rw [hW2]; exact (Below.refl _ _).alloc (Nat.le_refl _) _); have HSW2 : Hid (W2.heap.size = W1.heap.size + 1) := hid (by rw [hW2]; simp); have hlW2 : wr.heap.size ≤ W1.heap.size := hBW.size; replace hZ := own_later hZ hbW2; have hA : W2.ownsRow 0 37 1 (.slice (some ⟨W1.heap.size, 0, none⟩) 0 0) 0 [] := (by rw [hW2]; exact World.ownsRow_made W1 #[] 0 (Nat.zero_le _) (by decide) rfl); replace hBW := hBW.trans (hbW2.mono hBW.size); replace hR := hR.keep hbW2; clear hW2
                  refine hK.out _ _ hR (fun hHeld => ?_)
                  clear hK K
                  (try simp only [Act.put, List.setIfInBounds_toArray, List.set_cons_zero, List.set_cons_succ])
                  refine wpAnyK_ready (rs := [6, 8]) (by kernel_rfl) (by simp) ?_
                  refine AllReadyK.cons (op_at _ 6 _ rfl) (fun K hK => ?_) ?_
                  · refine step_app rfl (.tmp 84) (.tmp 88) el66 rfl (.slice (some ⟨W1.heap.size, 0, none⟩) 0 0) 0 [] rfl hA B'.aS KK B'.cS B'.us rfl (src_row (own_later RS.out hBW) HONE.out) (by omega) ?_; simp only [Nat.zero_add, List.nil_append]; intro a6 c6 W3 ho6 hg6 hat6; have hl6 := hBW.size; have ha6 : ∀ k, (Value.slice a6 KK c6).ownBlock = some k → wr.heap.size ≤ k := (fun k hk => by obtain ⟨y, hy, rfl⟩ := slice_own hk; rcases hat6 y hy with h | h; simp only [Value.ownBlock, Option.some.injEq] at h; omega; omega); replace hZ := own_beside hZ hg6 (fun k hk e => own_ne hZ hA (by decide) hk e.symm rfl); have hz6 : W2.heap.size ≤ W3.heap.size := hg6.size; replace hBW := hBW.grown hg6 hBW.size (fun k hk => by simp only [Value.ownBlock, Option.some.injEq] at hk; omega); replace hR : Reads1 ⟨r, 1 + 1, none⟩ (.slice B'.aS KK B'.cS) W3 := ⟨keep_old hBW HE1.out, trivial⟩; clear hat6 hg6 hA
                    refine hK.out _ _ hR (fun hHeld => ?_)
                    clear hK K
                    (try simp only [Act.put, List.setIfInBounds_toArray, List.set_cons_zero, List.set_cons_succ])
                    refine wpAnyK_ready (rs := [8]) (by kernel_rfl) (by simp) ?_
                    refine AllReadyK.cons (op_at _ 8 _ rfl) (fun K hK => ?_) AllReadyK.nil
                    go_simp
                    obtain ⟨W4, hW4⟩ : ∃ W', W' = W3.alloc (.cells #[.slice (some ⟨W0.heap.size, 0, none⟩) 128 128] 37) := ⟨_, rfl⟩; rw [← hW4]; have hbW4 : Below W3.heap.size W3 W4 := (by rw [hW4]; exact (Below.refl _ _).alloc (Nat.le_refl _) _); have HSW4 : Hid (W4.heap.size = W3.heap.size + 1) := hid (by rw [hW4]; simp); have hlW4 : wr.heap.size ≤ W3.heap.size := hBW.size; replace hZ := own_later hZ hbW4; replace ho6 := own_later ho6 hbW4; have hL : W4.ownsRow 0 37 1 (.slice (some ⟨W3.heap.size, 0, none⟩) 1 1) 1 [.slice (some ⟨W0.heap.size, 0, none⟩) 128 128] := (by rw [hW4]; exact own_lit W3 37 _); replace hBW := hBW.trans (hbW4.mono hBW.size); replace hR := hR.keep hbW4; clear hW4
                    refine hK.out _ _ hR (fun hHeld => ?_)
                    clear hK K
                    (try simp only [Act.put, List.setIfInBounds_toArray, List.set_cons_zero, List.set_cons_succ])
                    refine wpAnyK_ready (rs := [9]) (by kernel_rfl) (by simp) ?_
                    refine AllReadyK.cons (op_at _ 9 _ rfl) (fun K hK => ?_) AllReadyK.nil
                    refine step_app rfl (.tmp 89) (.tmp 91) el66 rfl (.slice a6 KK c6) KK B'.us rfl ho6 (some ⟨W3.heap.size, 0, none⟩) 1 1 [.slice (some ⟨W0.heap.size, 0, none⟩) 128 128] rfl (src_row hL (by intro u hu; simp at hu; subst hu; rfl)) (by omega) ?_; intro a9 c9 w9 ho9 hg9 hat9; have hl9 := hBW.size; replace hZ := own_beside hZ hg9 (fun k hk e => own_ne hZ ho6 (by decide) hk e.symm rfl); have ha9 : ∀ a, a9 = some a → wr.heap.size ≤ a.block := (fun a ha => by rcases hat9 a ha with h | h; exact ha6 _ h; omega); replace hBW := hBW.grown hg9 hBW.size ha6; replace hR : Reads1 ⟨r, 1 + 1, none⟩ (.slice B'.aS KK B'.cS) w9 := ⟨keep_old hBW HE1.out, trivial⟩; have e9 := hR.1; have f9 : w9.frozen? ⟨r, 1 + 1, none⟩ = false := (keep_frozen hBW hrl).trans f1; have HNO := hid (cut_step hI.out HKK.out hrl hBW ho9 (sec_new hZ (fun y hy => by cases hy; have := hI.out.fr.size; show w2.heap.size ≤ W0.heap.size; omega)) ha9); clear ho9 hg9 hat9 hL ho6 ha6
                    refine hK.out _ _ hR (fun hHeld => ?_)
                    clear hK K
                    (try simp only [Act.put, List.setIfInBounds_toArray, List.set_cons_zero, List.set_cons_succ])
                    refine wpAnyK_pure (i := 10) (v := ?_) (op_at _ 10 _ rfl) (by kernel_rfl) (by kernel_rfl) (by kernel_rfl) (by kernel_rfl) (fun _ _ _ h => h) (Or.inl ⟨by rfl, ?_⟩) (Or.inl (by assumption)) ?_
                    rotate_left 1
                    focus (intro W hSw; go_simp; first | done | with_reducible rfl)
                    (try simp only [Act.put, List.setIfInBounds_toArray, List.set_cons_zero, List.set_cons_succ])
                    refine wpAnyK_pure (i := 11) (v := ?_) (op_at _ 11 _ rfl) (by kernel_rfl) (by kernel_rfl) (by kernel_rfl) (by kernel_rfl) (fun _ _ _ h => h) (Or.inl ⟨by rfl, ?_⟩) (Or.inl (by assumption)) ?_
                    rotate_left 1
                    focus (intro W hSw; go_simp; first | done | with_reducible rfl)
                    (try simp only [Act.put, List.setIfInBounds_toArray, List.set_cons_zero, List.set_cons_succ])
                    refine wpAnyK_ready (rs := [12]) (by kernel_rfl) (by simp) ?_
                    refine AllReadyK.late (op_at _ 12 _ rfl) (by kernel_rfl) (fun K hK => ?_) AllReadyK.nil
                    go_simp
                    refine hK.out _ _ ?_
                    clear hK K
                    (try simp only [Act.put, List.setIfInBounds_toArray, List.set_cons_zero, List.set_cons_succ])
                    refine wpAnyK_done (by kernel_rfl) ?_ _
                    obtain ⟨W10, hW10⟩ : ∃ W', W' = w9.setCell ⟨r, 1 + 1, none⟩ (.slice a9 (KK + 1) c9) := ⟨_, rfl⟩
                    rw [← hW10] at HNO ⊢
                    go_wp2
                    go_roundg (gk - 1)
                    case measure => have := HKN.out; omega
                    case rel => exact ⟨j + 1, _, by have := HKN.out; omega, HNO⟩
                  refine AllReadyK.cons (op_at _ 8 _ rfl) (fun K hK => ?_) ?_
                  · go_simp
                    obtain ⟨W3, hW3⟩ : ∃ W', W' = W2.alloc (.cells #[.slice (some ⟨W0.heap.size, 0, none⟩) 128 128] 37) := ⟨_, rfl⟩; rw [← hW3]; have hbW3 : Below W2.heap.size W2 W3 := (by rw [hW3]; exact (Below.refl _ _).alloc (Nat.le_refl _) _); have HSW3 : Hid (W3.heap.size = W2.heap.size + 1) := hid (by rw [hW3]; simp); have hlW3 : wr.heap.size ≤ W2.heap.size := hBW.size; replace hA := own_later hA hbW3; replace hZ := own_later hZ hbW3; have hL : W3.ownsRow 0 37 1 (.slice (some ⟨W2.heap.size, 0, none⟩) 1 1) 1 [.slice (some ⟨W0.heap.size, 0, none⟩) 128 128] := (by rw [hW3]; exact own_lit W2 37 _); replace hBW := hBW.trans (hbW3.mono hBW.size); replace hR := hR.keep hbW3; clear hW3
                    refine hK.out _ _ hR (fun hHeld => ?_)
                    clear hK K
                    (try simp only [Act.put, List.setIfInBounds_toArray, List.set_cons_zero, List.set_cons_succ])
                    refine wpAnyK_ready (rs := [6]) (by kernel_rfl) (by simp) ?_
                    refine AllReadyK.cons (op_at _ 6 _ rfl) (fun K hK => ?_) AllReadyK.nil
                    refine step_app rfl (.tmp 84) (.tmp 88) el66 rfl (.slice (some ⟨W1.heap.size, 0, none⟩) 0 0) 0 [] rfl hA B'.aS KK B'.cS B'.us rfl (src_row (own_later RS.out hBW) HONE.out) (by omega) ?_; simp only [Nat.zero_add, List.nil_append]; intro a6 c6 W4 ho6 hg6 hat6; have hl6 := hBW.size; have ha6 : ∀ k, (Value.slice a6 KK c6).ownBlock = some k → wr.heap.size ≤ k := (fun k hk => by obtain ⟨y, hy, rfl⟩ := slice_own hk; rcases hat6 y hy with h | h; simp only [Value.ownBlock, Option.some.injEq] at h; omega; omega); replace hL := own_beside hL hg6 (fun k hk e => by simp only [Value.ownBlock, Option.some.injEq] at hk e; have qW1 := HSW1.out; have qW2 := HSW2.out; have qW3 := HSW3.out; omega); replace hZ := own_beside hZ hg6 (fun k hk e => own_ne hZ hA (by decide) hk e.symm rfl); have hz6 : W3.heap.size ≤ W4.heap.size := hg6.size; replace hBW := hBW.grown hg6 hBW.size (fun k hk => by simp only [Value.ownBlock, Option.some.injEq] at hk; omega); replace hR : Reads1 ⟨r, 1 + 1, none⟩ (.slice B'.aS KK B'.cS) W4 := ⟨keep_old hBW HE1.out, trivial⟩; clear hat6 hg6 hA
                    refine hK.out _ _ hR (fun hHeld => ?_)
                    clear hK K
                    (try simp only [Act.put, List.setIfInBounds_toArray, List.set_cons_zero, List.set_cons_succ])
                    refine wpAnyK_ready (rs := [9]) (by kernel_rfl) (by simp) ?_
                    refine AllReadyK.cons (op_at _ 9 _ rfl) (fun K hK => ?_) AllReadyK.nil
                    refine step_app rfl (.tmp 89) (.tmp 91) el66 rfl (.slice a6 KK c6) KK B'.us rfl ho6 (some ⟨W2.heap.size, 0, none⟩) 1 1 [.slice (some ⟨W0.heap.size, 0, none⟩) 128 128] rfl (src_row hL (by intro u hu; simp at hu; subst hu; rfl)) (by omega) ?_; intro a9 c9 w9 ho9 hg9 hat9; have hl9 := hBW.size; replace hZ := own_beside hZ hg9 (fun k hk e => own_ne hZ ho6 (by decide) hk e.symm rfl); have ha9 : ∀ a, a9 = some a → wr.heap.size ≤ a.block := (fun a ha => by rcases hat9 a ha with h | h; exact ha6 _ h; omega); replace hBW := hBW.grown hg9 hBW.size ha6; replace hR : Reads1 ⟨r, 1 + 1, none⟩ (.slice B'.aS KK B'.cS) w9 := ⟨keep_old hBW HE1.out, trivial⟩; have e9 := hR.1; have f9 : w9.frozen? ⟨r, 1 + 1, none⟩ = false := (keep_frozen hBW hrl).trans f1; have HNO := hid (cut_step hI.out HKK.out hrl hBW ho9 (sec_new hZ (fun y hy => by cases hy; have := hI.out.fr.size; show w2.heap.size ≤ W0.heap.size; omega)) ha9); clear ho9 hg9 hat9 hL ho6 ha6
                    refine hK.out _ _ hR (fun hHeld => ?_)
                    clear hK K
                    (try simp only [Act.put, List.setIfInBounds_toArray, List.set_cons_zero, List.set_cons_succ])
                    refine wpAnyK_pure (i := 10) (v := ?_) (op_at _ 10 _ rfl) (by kernel_rfl) (by kernel_rfl) (by kernel_rfl) (by kernel_rfl) (fun _ _ _ h => h) (Or.inl ⟨by rfl, ?_⟩) (Or.inl (by assumption)) ?_
                    rotate_left 1
                    focus (intro W hSw; go_simp; first | done | with_reducible rfl)
                    (try simp only [Act.put, List.setIfInBounds_toArray, List.set_cons_zero, List.set_cons_succ])
                    refine wpAnyK_pure (i := 11) (v := ?_) (op_at _ 11 _ rfl) (by kernel_rfl) (by kernel_rfl) (by kernel_rfl) (by kernel_rfl) (fun _ _ _ h => h) (Or.inl ⟨by rfl, ?_⟩) (Or.inl (by assumption)) ?_
                    rotate_left 1
                    focus (intro W hSw; go_simp; first | done | with_reducible rfl)
                    (try simp only [Act.put, List.setIfInBounds_toArray, List.set_cons_zero, List.set_cons_succ])
                    refine wpAnyK_ready (rs := [12]) (by kernel_rfl) (by simp) ?_
                    refine AllReadyK.late (op_at _ 12 _ rfl) (by kernel_rfl) (fun K hK => ?_) AllReadyK.nil
                    go_simp
                    refine hK.out _ _ ?_
                    clear hK K
                    (try simp only [Act.put, List.setIfInBounds_toArray, List.set_cons_zero, List.set_cons_succ])
                    refine wpAnyK_done (by kernel_rfl) ?_ _
                    obtain ⟨W10, hW10⟩ : ∃ W', W' = w9.setCell ⟨r, 1 + 1, none⟩ (.slice a9 (KK + 1) c9) := ⟨_, rfl⟩
                    rw [← hW10] at HNO ⊢
                    go_wp2
                    go_roundg (gk - 1)
                    case measure => have := HKN.out; omega
                    case rel => exact ⟨j + 1, _, by have := HKN.out; omega, HNO⟩
                  exact AllReadyK.nil
                refine AllReadyK.cons (op_at _ 8 _ rfl) (fun K hK => ?_) ?_
                · go_simp
                  obtain ⟨W2, hW2⟩ : ∃ W', W' = W1.alloc (.cells #[.slice (some ⟨W0.heap.size, 0, none⟩) 128 128] 37) := ⟨_, rfl⟩; rw [← hW2]; have hbW2 : Below W1.heap.size W1 W2 := (by rw [hW2]; exact (Below.refl _ _).alloc (Nat.le_refl _) _); have HSW2 : Hid (W2.heap.size = W1.heap.size + 1) := hid (by rw [hW2]; simp); have hlW2 : wr.heap.size ≤ W1.heap.size := hBW.size; replace hZ := own_later hZ hbW2; have hL : W2.ownsRow 0 37 1 (.slice (some ⟨W1.heap.size, 0, none⟩) 1 1) 1 [.slice (some ⟨W0.heap.size, 0, none⟩) 128 128] := (by rw [hW2]; exact own_lit W1 37 _); replace hBW := hBW.trans (hbW2.mono hBW.size); replace hR := hR.keep hbW2; clear hW2
                  refine hK.out _ _ hR (fun hHeld => ?_)
                  clear hK K
                  (try simp only [Act.put, List.setIfInBounds_toArray, List.set_cons_zero, List.set_cons_succ])
                  refine wpAnyK_ready (rs := [1]) (by kernel_rfl) (by simp) ?_
                  refine AllReadyK.cons (op_at _ 1 _ rfl) (fun K hK => ?_) AllReadyK.nil
                  go_simp
                  obtain ⟨W3, hW3⟩ : ∃ W', W' = W2.alloc (.cells #[] 37) := ⟨_, rfl⟩; rw [← hW3]; have hbW3 : Below W2.heap.size W2 W3 := (by rw [hW3]; exact (Below.refl _ _).alloc (Nat.le_refl _) _); have HSW3 : Hid (W3.heap.size = W2.heap.size + 1) := hid (by rw [hW3]; simp); have hlW3 : wr.heap.size ≤ W2.heap.size := hBW.size; replace hL := own_later hL hbW3; replace hZ := own_later hZ hbW3; have hA : W3.ownsRow 0 37 1 (.slice (some ⟨W2.heap.size, 0, none⟩) 0 0) 0 [] := (by rw [hW3]; exact World.ownsRow_made W2 #[] 0 (Nat.zero_le _) (by decide) rfl); replace hBW := hBW.trans (hbW3.mono hBW.size); replace hR := hR.keep hbW3; clear hW3
                  refine hK.out _ _ hR (fun hHeld => ?_)
                  clear hK K
                  (try simp only [Act.put, List.setIfInBounds_toArray, List.set_cons_zero, List.set_cons_succ])
                  refine wpAnyK_ready (rs := [6]) (by kernel_rfl) (by simp) ?_
                  refine AllReadyK.cons (op_at _ 6 _ rfl) (fun K hK => ?_) AllReadyK.nil
                  refine step_app rfl (.tmp 84) (.tmp 88) el66 rfl (.slice (some ⟨W2.heap.size, 0, none⟩) 0 0) 0 [] rfl hA B'.aS KK B'.cS B'.us rfl (src_row (own_later RS.out hBW) HONE.out) (by omega) ?_; simp only [Nat.zero_add, List.nil_append]; intro a6 c6 W4 ho6 hg6 hat6; have hl6 := hBW.size; have ha6 : ∀ k, (Value.slice a6 KK c6).ownBlock = some k → wr.heap.size ≤ k := (fun k hk => by obtain ⟨y, hy, rfl⟩ := slice_own hk; rcases hat6 y hy with h | h; simp only [Value.ownBlock, Option.some.injEq] at h; omega; omega); replace hL := own_beside hL hg6 (fun k hk e => by simp only [Value.ownBlock, Option.some.injEq] at hk e; have qW1 := HSW1.out; have qW2 := HSW2.out; have qW3 := HSW3.out; omega); replace hZ := own_beside hZ hg6 (fun k hk e => own_ne hZ hA (by decide) hk e.symm rfl); have hz6 : W3.heap.size ≤ W4.heap.size := hg6.size; replace hBW := hBW.grown hg6 hBW.size (fun k hk => by simp only [Value.ownBlock, Option.some.injEq] at hk; omega); replace hR : Reads1 ⟨r, 1 + 1, none⟩ (.slice B'.aS KK B'.cS) W4 := ⟨keep_old hBW HE1.out, trivial⟩; clear hat6 hg6 hA
                  refine hK.out _ _ hR (fun hHeld => ?_)
                  clear hK K
                  (try simp only [Act.put, List.setIfInBounds_toArray, List.set_cons_zero, List.set_cons_succ])
                  refine wpAnyK_ready (rs := [9]) (by kernel_rfl) (by simp) ?_
                  refine AllReadyK.cons (op_at _ 9 _ rfl) (fun K hK => ?_) AllReadyK.nil
                  refine step_app rfl (.tmp 89) (.tmp 91) el66 rfl (.slice a6 KK c6) KK B'.us rfl ho6 (some ⟨W1.heap.size, 0, none⟩) 1 1 [.slice (some ⟨W0.heap.size, 0, none⟩) 128 128] rfl (src_row hL (by intro u hu; simp at hu; subst hu; rfl)) (by omega) ?_; intro a9 c9 w9 ho9 hg9 hat9; have hl9 := hBW.size; replace hZ := own_beside hZ hg9 (fun k hk e => own_ne hZ ho6 (by decide) hk e.symm rfl); have ha9 : ∀ a, a9 = some a → wr.heap.size ≤ a.block := (fun a ha => by rcases hat9 a ha with h | h; exact ha6 _ h; omega); replace hBW := hBW.grown hg9 hBW.size ha6; replace hR : Reads1 ⟨r, 1 + 1, none⟩ (.slice B'.aS KK B'.cS) w9 := ⟨keep_old hBW HE1.out, trivial⟩; have e9 := hR.1; have f9 : w9.frozen? ⟨r, 1 + 1, none⟩ = false := (keep_frozen hBW hrl).trans f1; have HNO := hid (cut_step hI.out HKK.out hrl hBW ho9 (sec_new hZ (fun y hy => by cases hy; have := hI.out.fr.size; show w2.heap.size ≤ W0.heap.size; omega)) ha9); clear ho9 hg9 hat9 hL ho6 ha6
                  refine hK.out _ _ hR (fun hHeld => ?_)
                  clear hK K
                  (try simp only [Act.put, List.setIfInBounds_toArray, List.set_cons_zero, List.set_cons_succ])
                  refine wpAnyK_pure (i := 10) (v := ?_) (op_at _ 10 _ rfl) (by kernel_rfl) (by kernel_rfl) (by kernel_rfl) (by kernel_rfl) (fun _ _ _ h => h) (Or.inl ⟨by rfl, ?_⟩) (Or.inl (by assumption)) ?_
                  rotate_left 1
                  focus (intro W hSw; go_simp; first | done | with_reducible rfl)
                  (try simp only [Act.put, List.setIfInBounds_toArray, List.set_cons_zero, List.set_cons_succ])
                  refine wpAnyK_pure (i := 11) (v := ?_) (op_at _ 11 _ rfl) (by kernel_rfl) (by kernel_rfl) (by kernel_rfl) (by kernel_rfl) (fun _ _ _ h => h) (Or.inl ⟨by rfl, ?_⟩) (Or.inl (by assumption)) ?_
                  rotate_left 1
                  focus (intro W hSw; go_simp; first | done | with_reducible rfl)
                  (try simp only [Act.put, List.setIfInBounds_toArray, List.set_cons_zero, List.set_cons_succ])
                  refine wpAnyK_ready (rs := [12]) (by kernel_rfl) (by simp) ?_
                  refine AllReadyK.late (op_at _ 12 _ rfl) (by kernel_rfl) (fun K hK => ?_) AllReadyK.nil
                  go_simp
                  refine hK.out _ _ ?_
                  clear hK K
                  (try simp only [Act.put, List.setIfInBounds_toArray, List.set_cons_zero, List.set_cons_succ])
                  refine wpAnyK_done (by kernel_rfl) ?_ _
                  obtain ⟨W10, hW10⟩ : ∃ W', W' = w9.setCell ⟨r, 1 + 1, none⟩ (.slice a9 (KK + 1) c9) := ⟨_, rfl⟩
                  rw [← hW10] at HNO ⊢
                  go_wp2
                  go_roundg (gk - 1)
                  case measure => have := HKN.out; omega
                  case rel => exact ⟨j + 1, _, by have := HKN.out; omega, HNO⟩
                exact AllReadyK.nil
              exact AllReadyK.nil
            · have hkE : KK = N := by have := HKN.out; omega
              have hkN' : ¬ ((KK : Int) < (N : Int)) := by omega
              go_wp2
              go_ret
              have hI' := hI.out
              have ht : FTurn w2 wr r 1 R.S0 R.B0 (cutF (tickD d).f0 N) B' := by
                have hc : (⟨F.now.take N, F.old.take N ++ List.replicate j noughts, F.dirt.take N⟩ : FS) = cutF (tickD d).f0 N := by
                  rw [show (tickD d).f0 = d.f0 from rfl, ← HF.out]
                  unfold cutF
                  rw [show j = N - F.old.length by have := HKN.out; rw [← HOL.out]; omega]
                rw [← hc, ← HB.out]
                exact ⟨hI'.rf, hI'.fr, hI'.mu⟩
              have hok := hd.out.ok
              have hNl : N ≤ (tickD d).f0.now.length := by show N ≤ d.f0.now.length; rw [← HLL.out]; exact hNL
              have hcl := cutF_now (tickD d).f0 N hNl
              obtain ⟨h1, h2, h3⟩ := hd.out.file0 ht ⟨hok.r1, hok.r2, by show (cutF (tickD d).f0 N).now.length + (tickD d).f1.now.length ≤ (tickD d).room; rw [hcl]; have := hok.sum; omega, cutF_ok hok.ok0 hNl, hok.ok1, hok.kl, hok.tn, hok.lf, hok.op⟩
              exact ⟨rfl, ⟨_, h1, h2.of hfr.out.size⟩, hfr.out.trans (h3.imp (fun _ _ h => Or.inl h))⟩

set_option maxHeartbeats 4000000 in
set_option maxRecDepth 20000 in
theorem rcut_1 (r : Nat) (R : RParts) (d : DS) (n : Int) (w : World) (h : RefP w r R d) (ho : d.off = false) (hop : d.ops < 1000000000) :
    Calls Try.prog 33 #[.pointer (some ⟨r, 0, none⟩), .int .i64 1, .int .i64 n] w fun e w' => e = .returned (.int .i64 (cutD d 1 n).1) ∧ (∃ R', RefP w' r R' (cutD d 1 n).2 ∧ RGrew R w R') ∧ DFrame w w' r R.mut := by
  have c7 := h.c7
  rw [ho] at c7
  have H := hid h
  have c0 := h.f1.c0
  have hr2 := h.ok.r2; have hsum := h.ok.sum
  obtain ⟨L, hLL⟩ : ∃ L, L = d.f1.now.length := ⟨_, rfl⟩
  rw [← hLL] at c0
  have hlb : L ≤ 32768 := by omega
  have HLL := hid hLL
  have hcd : cutD d 1 n = if n < 0 ∨ (L : Int) < n then (11, d) else if d.left = 1 then (4, crashD (opsD d) d.keep d.torn) else (0, (tickD d).put 1 (cutF d.f1 n.toNat)) := by
    simp only [cutD, ho, hLL]; rfl
  rw [hcd]
  clear hcd h hsum hr2 hLL
  by_cases h1 : n < 0
  · rw [if_pos (Or.inl h1)]
    go_enter Try.func33, Try.ntmps33
    go_wp2
    go_ret
    exact ⟨rfl, ⟨R, H.out, RGrew.refl _ _⟩, DFrame.refl _ _ _⟩
  · have h1' : decide (n < 0) = false := by simp; omega
    by_cases h2 : (L : Int) < n
    · rw [if_pos (Or.inr h2)]
      go_enter Try.func33, Try.ntmps33
      go_wp2
      go_ret
      exact ⟨rfl, ⟨R, H.out, RGrew.refl _ _⟩, DFrame.refl _ _ _⟩
    · rw [if_neg (by omega)]
      have h2' : decide ((L : Int) < n) = false := by simp; omega
      obtain ⟨N, rfl⟩ := Int.eq_ofNat_of_zero_le (show 0 ≤ n by omega)
      rw [Int.toNat_natCast]
      have hNL : N ≤ L := by omega
      clear h1 h2
      by_cases hl : d.left = 1
      · rw [if_pos hl]
        have CO := hid (rop_crash r R d w H.out ho hl hop)
        go_enter Try.func33, Try.ntmps33
        go_wp2_with (go_at_call 55; refine CO.out.mono ?_; rintro e w2 ⟨rfl, hd, hfr⟩; replace hd := hid hd; replace hfr := hid hfr)
        go_ret
        exact ⟨rfl, hd.out, hfr.out⟩
      · rw [if_neg hl]
        have CO := hid (rop_go r R d w H.out hl hop)
        go_enter Try.func33, Try.ntmps33
        have hcN : (N : Int) ≤ (R.B1.cN : Int) := by
          rcases row_some H.out.f1.rn with ⟨_, h1, h2⟩ | ⟨g, _, h1, _⟩
          · have := HLL.out; omega
          · have := HLL.out; omega
        have hcD : (N : Int) ≤ (R.B1.cD : Int) := by
          have hld := H.out.ok.ok1.ld
          rcases row_some H.out.f1.rd with ⟨_, h1, h2⟩ | ⟨g, _, h1, _⟩
          · have := HLL.out; omega
          · have := HLL.out; omega
        obtain ⟨B, hB⟩ : ∃ B, B = R.B1 := ⟨_, rfl⟩
        obtain ⟨F, hF⟩ : ∃ F, F = d.f1 := ⟨_, rfl⟩
        have HB := hid hB; have HF := hid hF
        rw [← hB] at hcN hcD
        rw [← hB] at c0
        clear hB hF
        go_wp2_with (go_at_call 55; refine CO.out.mono ?_; rintro e w2 ⟨rfl, hd, hfr⟩; have d0 := hd.f1.c0; have d2 := hd.f1.c2; have f0 := hd.fz 4; have f2 := hd.fz (4 + 2); rw [show (tickD d).f1 = d.f1 from rfl, ← HLL.out, ← HB.out] at d0; rw [hd.ok.ok1.ld, show (tickD d).f1 = d.f1 from rfl, ← HLL.out, ← HB.out] at d2; replace hd := hid hd; replace hfr := hid hfr; clear CO)
        go_region
        obtain ⟨W3, hW3⟩ : ∃ W3, W3 = ((w2.setCell ⟨r, 4, none⟩ (.slice B.aN N B.cN)).setCell ⟨r, 4 + 2, none⟩ (.slice B.aD N B.cD)).drew := ⟨_, rfl⟩
        rw [← hW3]
        obtain ⟨OL, hOL⟩ : ∃ OL, OL = F.old.length := ⟨_, rfl⟩
        have HOL := hid hOL
        have HC3 : Hid (RefF W3 r 4 R.S1 { B with vs := B.vs.take N } ⟨F.now.take N, F.old, F.dirt.take N⟩ ∧ FFrame w2 W3 r 4 (Mut B)) := hid (by
          have h0 := hd.out.f1
          rw [show (tickD d).f1 = d.f1 from rfl, ← HF.out, ← HB.out] at h0
          have hlN : F.now.length = L := by rw [HF.out, HLL.out]
          have h1 := h0.cutNow (k := N) (by rw [hlN]; exact hNL)
          have h2 := h1.1.cutDirt (k := N) (by show N ≤ F.dirt.length; rw [HF.out, H.out.ok.ok1.ld, ← HLL.out]; exact hNL)
          rw [hW3]
          exact ⟨h2.1.stay (fun _ _ _ => rfl) (fun _ _ _ => rfl), (h1.2.trans (h2.2.imp (fun _ _ h => Or.inl h))).drewF⟩)
        have e1 := HC3.out.1.c1
        (try simp only at e1)
        rw [← hOL] at e1
        have f1 : W3.frozen? ⟨r, 4 + 1, none⟩ = false := (HC3.out.2.fz _).trans (hd.out.fz _)
        have hcS : OL ≤ B.cS := by
          have := HC3.out.1.rs
          simp only at this
          rw [← hOL] at this
          rcases row_some this with ⟨_, h1, h2⟩ | ⟨g, _, h1, _⟩
          · omega
          · exact h1
        clear hW3 hOL d0 d2 f0 f2
        go_upto_if 66 with (fail)
        go_cut [] from 60 to 75 (fun W => Hid (∃ B', CutI w2 r 4 R.S1 B F N 0 B' W))
        case first =>
          by_cases hE : N < OL
          · have hE' : (N : Int) < (OL : Int) := by omega
            have hcSI : (N : Int) ≤ (B.cS : Int) := by omega
            have hcut' := hid (HC3.out.1.cutOld (k := N) (by show N ≤ F.old.length; rw [← HOL.out]; omega))
            go_wp2
            go_meet
            case rel =>
              refine hid ⟨_, (hcut'.out.1.imp (fun _ _ h => Or.inl h) ?_).sameOld (by simp), HC3.out.2.trans (hcut'.out.2.imp (fun k _ hk => Or.inl hk)), fun k hk => Or.inl hk⟩
              rintro (h | h)
              · exact HC3.out.1.np h
              · have := hd.out.rlt; omega
          · have hE' : ¬ ((N : Int) < (OL : Int)) := by omega
            go_wp2
            go_meet
            case rel =>
              refine hid ⟨_, (HC3.out.1.imp (fun _ _ h => Or.inl h) ?_).sameOld (by simp; rw [List.take_of_length_le (by rw [← HOL.out]; omega)]), HC3.out.2, fun k hk => Or.inl hk⟩
              rintro (h | h)
              · exact HC3.out.1.np h
              · have := hd.out.rlt; omega
        case rest =>
          have HCUT := hcut
          clear hcut e1 f1 HC3 hcS
          go_wp2_with fail
          go_loopg [] (N - OL) (fun k W => ∃ (j : Nat) (B' : RP), j + k = N - OL ∧ Hid (CutI w2 r 4 R.S1 B F N j B' W))
          case atStart => obtain ⟨B', hB'⟩ := HCUT.out; exact ⟨0, B', by omega, hid hB'⟩
          case round =>
            obtain ⟨j, B', hj, hI⟩ := hrel
            obtain ⟨KK, hKK⟩ : ∃ KK, KK = (F.old.take N ++ List.replicate j noughts).length := ⟨_, rfl⟩
            have hKN : KK = min N OL + j := by rw [hKK]; simp [HOL.out]
            have HKK := hid hKK; have HKN := hid hKN
            have e1 := hI.out.rf.c1
            (try simp only at e1)
            rw [← hKK] at e1
            have HE1 := hid e1
            have f1 : wr.frozen? ⟨r, 4 + 1, none⟩ = false := (hI.out.fr.fz _).trans (hd.out.fz _)
            have hrl : r < wr.heap.size := hI.out.rf.plt
            have RS := hid hI.out.rf.rs
            (try simp only at RS)
            rw [← hKK] at RS
            have HONE := hid hI.out.rf.ao.one
            clear hKK hKN
            by_cases hkN : KK < N
            · have hkN' : (KK : Int) < (N : Int) := by omega
              have mk : ∀ W : World, (Instr.makeSlice 37 (.int .i64 128) (.int .i64 128)).run Try.prog W = .ok (.slice (some ⟨W.heap.size, 0, none⟩) 128 128) (W.alloc (.cells (Array.replicate 128 (.int .u8 0)) 5)) := fun W => make_any 128 128 (Nat.le_refl _) (by omega) W
              go_wp2_with fail
              refine wp_region_K (S := Reads1 ⟨r, 4 + 1, none⟩ (.slice B'.aS KK B'.cS)) (fun i => i == 12) (by kernel_rfl) ⟨e1, trivial⟩ (fun hHeld => ?_)
              obtain ⟨W0, hW0⟩ : ∃ W0, W0 = wr.drew := ⟨_, rfl⟩
              rw [← hW0] at hHeld ⊢
              have hR := hHeld
              have hBW : Below wr.heap.size wr W0 := by rw [hW0]; exact (Below.refl _ _).drew
              clear hW0
              refine wpAnyK_pure (i := 0) (v := ?_) (op_at _ 0 _ rfl) (by kernel_rfl) (by kernel_rfl) (by kernel_rfl) (by kernel_rfl) (fun _ _ _ h => h) (Or.inl ⟨by rfl, ?_⟩) (Or.inl (by assumption)) ?_
              rotate_left 1
              focus (intro W hSw; go_simp; first | done | with_reducible rfl)
              (try simp only [Act.put, List.setIfInBounds_toArray, List.set_cons_zero, List.set_cons_succ])
              refine wpAnyK_pure (i := 2) (v := ?_) (op_at _ 2 _ rfl) (by kernel_rfl) (by kernel_rfl) (by kernel_rfl) (by kernel_rfl) (fun _ _ _ h => h) (Or.inl ⟨by rfl, ?_⟩) (Or.inl (by assumption)) ?_
              rotate_left 1
              focus (intro W hSw; go_simp; first | done | with_reducible rfl)
              (try simp only [Act.put, List.setIfInBounds_toArray, List.set_cons_zero, List.set_cons_succ])
              refine wpAnyK_pure (i := 3) (v := ?_) (op_at _ 3 _ rfl) (by kernel_rfl) (by kernel_rfl) (by kernel_rfl) (by kernel_rfl) (fun _ _ _ h => h) (Or.inl ⟨by rfl, ?_⟩) (Or.inl (by assumption)) ?_
              rotate_left 1
              focus (intro W hSw; go_simp; first | done | with_reducible rfl)
              (try simp only [Act.put, List.setIfInBounds_toArray, List.set_cons_zero, List.set_cons_succ])
              refine wpAnyK_pure (i := 4) (v := ?_) (op_at _ 4 _ rfl) (by kernel_rfl) (by kernel_rfl) (by kernel_rfl) (by kernel_rfl) (fun _ _ _ h => h) (Or.inl ⟨by rfl, ?_⟩) (Or.inl (by assumption)) ?_
              rotate_left 1
              focus (intro W hSw; go_simp; first | done | with_reducible rfl)
              (try simp only [Act.put, List.setIfInBounds_toArray, List.set_cons_zero, List.set_cons_succ])
              refine wpAnyK_take (i := 5) (v := ?_) (op_at _ 5 _ rfl) (by kernel_rfl) (by kernel_rfl) (by kernel_rfl) (by kernel_rfl) (fun _ _ _ h => h) (Or.inl ⟨by rfl, ?_⟩) (by assumption) ?_
              rotate_left 1
              focus (intro W hSw; obtain ⟨q0, _⟩ := hSw; go_simp; first | done | with_reducible rfl)
              (try simp only [Act.put, List.setIfInBounds_toArray, List.set_cons_zero, List.set_cons_succ])
              refine wpAnyK_ready (rs := [1, 7]) (by kernel_rfl) (by simp) ?_
              refine AllReadyK.cons (op_at _ 1 _ rfl) (fun K hK => ?_) ?_
              · go_simp
                obtain ⟨W1, hW1⟩ : ∃ W', W' = W0.alloc (.cells #[] 37) := ⟨_, rfl⟩; rw [← hW1]; have hbW1 : Below W0.heap.size W0 W1 := (by rw [hW1]; exact (Below.refl _ _).alloc (Nat.le_refl _) _); have HSW1 : Hid (W1.heap.size = W0.heap.size + 1) := hid (by rw [hW1]; simp); have hlW1 : wr.heap.size ≤ W0.heap.size := hBW.size; have hA : W1.ownsRow 0 37 1 (.slice (some ⟨W0.heap.size, 0, none⟩) 0 0) 0 [] := (by rw [hW1]; exact World.ownsRow_made W0 #[] 0 (Nat.zero_le _) (by decide) rfl); replace hBW := hBW.trans (hbW1.mono hBW.size); replace hR := hR.keep hbW1; clear hW1
                refine hK.out _ _ hR (fun hHeld => ?_)
                clear hK K
                (try simp only [Act.put, List.setIfInBounds_toArray, List.set_cons_zero, List.set_cons_succ])
                refine wpAnyK_ready (rs := [6, 7]) (by kernel_rfl) (by simp) ?_
                refine AllReadyK.cons (op_at _ 6 _ rfl) (fun K hK => ?_) ?_
                · refine step_app rfl (.tmp 84) (.tmp 88) el66 rfl (.slice (some ⟨W0.heap.size, 0, none⟩) 0 0) 0 [] rfl hA B'.aS KK B'.cS B'.us rfl (src_row (own_later RS.out hBW) HONE.out) (by omega) ?_; simp only [Nat.zero_add, List.nil_append]; intro a6 c6 W2 ho6 hg6 hat6; have hl6 := hBW.size; have ha6 : ∀ k, (Value.slice a6 KK c6).ownBlock = some k → wr.heap.size ≤ k := (fun k hk => by obtain ⟨y, hy, rfl⟩ := slice_own hk; rcases hat6 y hy with h | h; simp only [Value.ownBlock, Option.some.injEq] at h; omega; omega); have hz6 : W1.heap.size ≤ W2.heap.size := hg6.size; replace hBW := hBW.grown hg6 hBW.size (fun k hk => by simp only [Value.ownBlock, Option.some.injEq] at hk; omega); replace hR : Reads1 ⟨r, 4 + 1, none⟩ (.slice B'.aS KK B'.cS) W2 := ⟨keep_old hBW HE1.out, trivial⟩; clear hat6 hg6 hA
                  refine hK.out _ _ hR (fun hHeld => ?_)
                  clear hK K
                  (try simp only [Act.put, List.setIfInBounds_toArray, List.set_cons_zero, List.set_cons_succ])
                  refine wpAnyK_ready (rs := [7]) (by kernel_rfl) (by simp) ?_
                  refine AllReadyK.cons (op_at _ 7 _ rfl) (fun K hK => ?_) AllReadyK.nil
                  go_simp
                  obtain ⟨W3, hW3⟩ : ∃ W', W' = W2.alloc (.cells (Array.replicate 128 (.int .u8 0)) 5) := ⟨_, rfl⟩; rw [← hW3]; have hbW3 : Below W2.heap.size W2 W3 := (by rw [hW3]; exact (Below.refl _ _).alloc (Nat.le_refl _) _); have HSW3 : Hid (W3.heap.size = W2.heap.size + 1) := hid (by rw [hW3]; simp); have hlW3 : wr.heap.size ≤ W2.heap.size := hBW.size; replace ho6 := own_later ho6 hbW3; have hZ : W3.ownsRow 0 5 1 (.slice (some ⟨W2.heap.size, 0, none⟩) 128 128) 128 (bs noughts) := (by rw [hW3]; exact ⟨by simp [bs, noughts], .inr ⟨_, _, _, rfl, Nat.zero_le _, heap_alloc_new _ _, Nat.le_refl _, by decide, by simp, by simp [bs, noughts]⟩⟩); replace hBW := hBW.trans (hbW3.mono hBW.size); replace hR := hR.keep hbW3; clear hW3
                  refine hK.out _ _ hR (fun hHeld => ?_)
                  clear hK K
                  (try simp only [Act.put, List.setIfInBounds_toArray, List.set_cons_zero, List.set_cons_succ])
                  refine wpAnyK_ready (rs := [8]) (by kernel_rfl) (by simp) ?_
                  refine AllReadyK.cons (op_at _ 8 _ rfl) (fun K hK => ?_) AllReadyK.nil
                  go_simp
                  obtain ⟨W4, hW4⟩ : ∃ W', W' = W3.alloc (.cells #[.slice (some ⟨W2.heap.size, 0, none⟩) 128 128] 37) := ⟨_, rfl⟩; rw [← hW4]; have hbW4 : Below W3.heap.size W3 W4 := (by rw [hW4]; exact (Below.refl _ _).alloc (Nat.le_refl _) _); have HSW4 : Hid (W4.heap.size = W3.heap.size + 1) := hid (by rw [hW4]; simp); have hlW4 : wr.heap.size ≤ W3.heap.size := hBW.size; replace hZ := own_later hZ hbW4; replace ho6 := own_later ho6 hbW4; have hL : W4.ownsRow 0 37 1 (.slice (some ⟨W3.heap.size, 0, none⟩) 1 1) 1 [.slice (some ⟨W2.heap.size, 0, none⟩) 128 128] := (by rw [hW4]; exact own_lit W3 37 _); replace hBW := hBW.trans (hbW4.mono hBW.size); replace hR := hR.keep hbW4; clear hW4
                  refine hK.out _ _ hR (fun hHeld => ?_)
                  clear hK K
                  (try simp only [Act.put, List.setIfInBounds_toArray, List.set_cons_zero, List.set_cons_succ])
                  refine wpAnyK_ready (rs := [9]) (by kernel_rfl) (by simp) ?_
                  refine AllReadyK.cons (op_at _ 9 _ rfl) (fun K hK => ?_) AllReadyK.nil
                  refine step_app rfl (.tmp 89) (.tmp 91) el66 rfl (.slice a6 KK c6) KK B'.us rfl ho6 (some ⟨W3.heap.size, 0, none⟩) 1 1 [.slice (some ⟨W2.heap.size, 0, none⟩) 128 128] rfl (src_row hL (by intro u hu; simp at hu; subst hu; rfl)) (by omega) ?_; intro a9 c9 w9 ho9 hg9 hat9; have hl9 := hBW.size; replace hZ := own_beside hZ hg9 (fun k hk e => own_ne hZ ho6 (by decide) hk e.symm rfl); have ha9 : ∀ a, a9 = some a → wr.heap.size ≤ a.block := (fun a ha => by rcases hat9 a ha with h | h; exact ha6 _ h; omega); replace hBW := hBW.grown hg9 hBW.size ha6; replace hR : Reads1 ⟨r, 4 + 1, none⟩ (.slice B'.aS KK B'.cS) w9 := ⟨keep_old hBW HE1.out, trivial⟩; have e9 := hR.1; have f9 : w9.frozen? ⟨r, 4 + 1, none⟩ = false := (keep_frozen hBW hrl).trans f1; have HNO := hid (cut_step hI.out HKK.out hrl hBW ho9 (sec_new hZ (fun y hy => by cases hy; have := hI.out.fr.size; show w2.heap.size ≤ W2.heap.size; omega)) ha9); clear ho9 hg9 hat9 hL ho6 ha6
                  refine hK.out _ _ hR (fun hHeld => ?_)
                  clear hK K
                  (try simp only [Act.put, List.setIfInBounds_toArray, List.set_cons_zero, List.set_cons_succ])
                  refine wpAnyK_pure (i := 10) (v := ?_) (op_at _ 10 _ rfl) (by kernel_rfl) (by kernel_rfl) (by kernel_rfl) (by kernel_rfl) (fun _ _ _ h => h) (Or.inl ⟨by rfl, ?_⟩) (Or.inl (by assumption)) ?_
                  rotate_left 1
                  focus (intro W hSw; go_simp; first | done | with_reducible rfl)
                  (try simp only [Act.put, List.setIfInBounds_toArray, List.set_cons_zero, List.set_cons_succ])
                  refine wpAnyK_pure (i := 11) (v := ?_) (op_at _ 11 _ rfl) (by kernel_rfl) (by kernel_rfl) (by kernel_rfl) (by kernel_rfl) (fun _ _ _ h => h) (Or.inl ⟨by rfl, ?_⟩) (Or.inl (by assumption)) ?_
                  rotate_left 1
                  focus (intro W hSw; go_simp; first | done | with_reducible rfl)
                  (try simp only [Act.put, List.setIfInBounds_toArray, List.set_cons_zero, List.set_cons_succ])
                  refine wpAnyK_ready (rs := [12]) (by kernel_rfl) (by simp) ?_
                  refine AllReadyK.late (op_at _ 12 _ rfl) (by kernel_rfl) (fun K hK => ?_) AllReadyK.nil
                  go_simp
                  refine hK.out _ _ ?_
                  clear hK K
                  (try simp only [Act.put, List.setIfInBounds_toArray, List.set_cons_zero, List.set_cons_succ])
                  refine wpAnyK_done (by kernel_rfl) ?_ _
                  obtain ⟨W10, hW10⟩ : ∃ W', W' = w9.setCell ⟨r, 4 + 1, none⟩ (.slice a9 (KK + 1) c9) := ⟨_, rfl⟩
                  rw [← hW10] at HNO ⊢
                  go_wp2
                  go_roundg (gk - 1)
                  case measure => have := HKN.out; omega
                  case rel => exact ⟨j + 1, _, by have := HKN.out; omega, HNO⟩
                refine AllReadyK.cons (op_at _ 7 _ rfl) (fun K hK => ?_) ?_
                · go_simp
                  obtain ⟨W2, hW2⟩ : ∃ W', W' = W1.alloc (.cells (Array.replicate 128 (.int .u8 0)) 5) := ⟨_, rfl⟩; rw [← hW2]; have hbW2 : Below W1.heap.size W1 W2 := (by rw [hW2]; exact (Below.refl _ _).alloc (Nat.le_refl _) _); have HSW2 : Hid (W2.heap.size = W1.heap.size + 1) := hid (by rw [hW2]; simp); have hlW2 : wr.heap.size ≤ W1.heap.size := hBW.size; replace hA := own_later hA hbW2; have hZ : W2.ownsRow 0 5 1 (.slice (some ⟨W1.heap.size, 0, none⟩) 128 128) 128 (bs noughts) := (by rw [hW2]; exact ⟨by simp [bs, noughts], .inr ⟨_, _, _, rfl, Nat.zero_le _, heap_alloc_new _ _, Nat.le_refl _, by decide, by simp, by simp [bs, noughts]⟩⟩); replace hBW := hBW.trans (hbW2.mono hBW.size); replace hR := hR.keep hbW2; clear hW2
                  refine hK.out _ _ hR (fun hHeld => ?_)
                  clear hK K
                  (try simp only [Act.put, List.setIfInBounds_toArray, List.set_cons_zero, List.set_cons_succ])
                  refine wpAnyK_ready (rs := [6, 8]) (by kernel_rfl) (by simp) ?_
                  refine AllReadyK.cons (op_at _ 6 _ rfl) (fun K hK => ?_) ?_
                  · refine step_app rfl (.tmp 84) (.tmp 88) el66 rfl (.slice (some ⟨W0.heap.size, 0, none⟩) 0 0) 0 [] rfl hA B'.aS KK B'.cS B'.us rfl (src_row (own_later RS.out hBW) HONE.out) (by omega) ?_; simp only [Nat.zero_add, List.nil_append]; intro a6 c6 W3 ho6 hg6 hat6; have hl6 := hBW.size; have ha6 : ∀ k, (Value.slice a6 KK c6).ownBlock = some k → wr.heap.size ≤ k := (fun k hk => by obtain ⟨y, hy, rfl⟩ := slice_own hk; rcases hat6 y hy with h | h; simp only [Value.ownBlock, Option.some.injEq] at h; omega; omega); replace hZ := own_beside hZ hg6 (fun k hk e => own_ne hZ hA (by decide) hk e.symm rfl); have hz6 : W2.heap.size ≤ W3.heap.size := hg6.size; replace hBW := hBW.grown hg6 hBW.size (fun k hk => by simp only [Value.ownBlock, Option.some.injEq] at hk; omega); replace hR : Reads1 ⟨r, 4 + 1, none⟩ (.slice B'.aS KK B'.cS) W3 := ⟨keep_old hBW HE1.out, trivial⟩; clear hat6 hg6 hA
                    refine hK.out _ _ hR (fun hHeld => ?_)
                    clear hK K
                    (try simp only [Act.put, List.setIfInBounds_toArray, List.set_cons_zero, List.set_cons_succ])
                    refine wpAnyK_ready (rs := [8]) (by kernel_rfl) (by simp) ?_
                    refine AllReadyK.cons (op_at _ 8 _ rfl) (fun K hK => ?_) AllReadyK.nil
                    go_simp
                    obtain ⟨W4, hW4⟩ : ∃ W', W' = W3.alloc (.cells #[.slice (some ⟨W1.heap.size, 0, none⟩) 128 128] 37) := ⟨_, rfl⟩; rw [← hW4]; have hbW4 : Below W3.heap.size W3 W4 := (by rw [hW4]; exact (Below.refl _ _).alloc (Nat.le_refl _) _); have HSW4 : Hid (W4.heap.size = W3.heap.size + 1) := hid (by rw [hW4]; simp); have hlW4 : wr.heap.size ≤ W3.heap.size := hBW.size; replace hZ := own_later hZ hbW4; replace ho6 := own_later ho6 hbW4; have hL : W4.ownsRow 0 37 1 (.slice (some ⟨W3.heap.size, 0, none⟩) 1 1) 1 [.slice (some ⟨W1.heap.size, 0, none⟩) 128 128] := (by rw [hW4]; exact own_lit W3 37 _); replace hBW := hBW.trans (hbW4.mono hBW.size); replace hR := hR.keep hbW4; clear hW4
                    refine hK.out _ _ hR (fun hHeld => ?_)
                    clear hK K
                    (try simp only [Act.put, List.setIfInBounds_toArray, List.set_cons_zero, List.set_cons_succ])
                    refine wpAnyK_ready (rs := [9]) (by kernel_rfl) (by simp) ?_
                    refine AllReadyK.cons (op_at _ 9 _ rfl) (fun K hK => ?_) AllReadyK.nil
                    refine step_app rfl (.tmp 89) (.tmp 91) el66 rfl (.slice a6 KK c6) KK B'.us rfl ho6 (some ⟨W3.heap.size, 0, none⟩) 1 1 [.slice (some ⟨W1.heap.size, 0, none⟩) 128 128] rfl (src_row hL (by intro u hu; simp at hu; subst hu; rfl)) (by omega) ?_; intro a9 c9 w9 ho9 hg9 hat9; have hl9 := hBW.size; replace hZ := own_beside hZ hg9 (fun k hk e => own_ne hZ ho6 (by decide) hk e.symm rfl); have ha9 : ∀ a, a9 = some a → wr.heap.size ≤ a.block := (fun a ha => by rcases hat9 a ha with h | h; exact ha6 _ h; omega); replace hBW := hBW.grown hg9 hBW.size ha6; replace hR : Reads1 ⟨r, 4 + 1, none⟩ (.slice B'.aS KK B'.cS) w9 := ⟨keep_old hBW HE1.out, trivial⟩; have e9 := hR.1; have f9 : w9.frozen? ⟨r, 4 + 1, none⟩ = false := (keep_frozen hBW hrl).trans f1; have HNO := hid (cut_step hI.out HKK.out hrl hBW ho9 (sec_new hZ (fun y hy => by cases hy; have := hI.out.fr.size; show w2.heap.size ≤ W1.heap.size; omega)) ha9); clear ho9 hg9 hat9 hL ho6 ha6
                    refine hK.out _ _ hR (fun hHeld => ?_)
                    clear hK K
                    (try simp only [Act.put, List.setIfInBounds_toArray, List.set_cons_zero, List.set_cons_succ])
                    refine wpAnyK_pure (i := 10) (v := ?_) (op_at _ 10 _ rfl) (by kernel_rfl) (by kernel_rfl) (by kernel_rfl) (by kernel_rfl) (fun _ _ _ h => h) (Or.inl ⟨by rfl, ?_⟩) (Or.inl (by assumption)) ?_
                    rotate_left 1
                    focus (intro W hSw; go_simp; first | done | with_reducible rfl)
                    (try simp only [Act.put, List.setIfInBounds_toArray, List.set_cons_zero, List.set_cons_succ])
                    refine wpAnyK_pure (i := 11) (v := ?_) (op_at _ 11 _ rfl) (by kernel_rfl) (by kernel_rfl) (by kernel_rfl) (by kernel_rfl) (fun _ _ _ h => h) (Or.inl ⟨by rfl, ?_⟩) (Or.inl (by assumption)) ?_
                    rotate_left 1
                    focus (intro W hSw; go_simp; first | done | with_reducible rfl)
                    (try simp only [Act.put, List.setIfInBounds_toArray, List.set_cons_zero, List.set_cons_succ])
                    refine wpAnyK_ready (rs := [12]) (by kernel_rfl) (by simp) ?_
                    refine AllReadyK.late (op_at _ 12 _ rfl) (by kernel_rfl) (fun K hK => ?_) AllReadyK.nil
                    go_simp
                    refine hK.out _ _ ?_
                    clear hK K
                    (try simp only [Act.put, List.setIfInBounds_toArray, List.set_cons_zero, List.set_cons_succ])
                    refine wpAnyK_done (by kernel_rfl) ?_ _
                    obtain ⟨W10, hW10⟩ : ∃ W', W' = w9.setCell ⟨r, 4 + 1, none⟩ (.slice a9 (KK + 1) c9) := ⟨_, rfl⟩
                    rw [← hW10] at HNO ⊢
                    go_wp2
                    go_roundg (gk - 1)
                    case measure => have := HKN.out; omega
                    case rel => exact ⟨j + 1, _, by have := HKN.out; omega, HNO⟩
                  refine AllReadyK.cons (op_at _ 8 _ rfl) (fun K hK => ?_) ?_
                  · go_simp
                    obtain ⟨W3, hW3⟩ : ∃ W', W' = W2.alloc (.cells #[.slice (some ⟨W1.heap.size, 0, none⟩) 128 128] 37) := ⟨_, rfl⟩; rw [← hW3]; have hbW3 : Below W2.heap.size W2 W3 := (by rw [hW3]; exact (Below.refl _ _).alloc (Nat.le_refl _) _); have HSW3 : Hid (W3.heap.size = W2.heap.size + 1) := hid (by rw [hW3]; simp); have hlW3 : wr.heap.size ≤ W2.heap.size := hBW.size; replace hA := own_later hA hbW3; replace hZ := own_later hZ hbW3; have hL : W3.ownsRow 0 37 1 (.slice (some ⟨W2.heap.size, 0, none⟩) 1 1) 1 [.slice (some ⟨W1.heap.size, 0, none⟩) 128 128] := (by rw [hW3]; exact own_lit W2 37 _); replace hBW := hBW.trans (hbW3.mono hBW.size); replace hR := hR.keep hbW3; clear hW3
                    refine hK.out _ _ hR (fun hHeld => ?_)
                    clear hK K
                    (try simp only [Act.put, List.setIfInBounds_toArray, List.set_cons_zero, List.set_cons_succ])
                    refine wpAnyK_ready (rs := [6]) (by kernel_rfl) (by simp) ?_
                    refine AllReadyK.cons (op_at _ 6 _ rfl) (fun K hK => ?_) AllReadyK.nil
                    refine step_app rfl (.tmp 84) (.tmp 88) el66 rfl (.slice (some ⟨W0.heap.size, 0, none⟩) 0 0) 0 [] rfl hA B'.aS KK B'.cS B'.us rfl (src_row (own_later RS.out hBW) HONE.out) (by omega) ?_; simp only [Nat.zero_add, List.nil_append]; intro a6 c6 W4 ho6 hg6 hat6; have hl6 := hBW.size; have ha6 : ∀ k, (Value.slice a6 KK c6).ownBlock = some k → wr.heap.size ≤ k := (fun k hk => by obtain ⟨y, hy, rfl⟩ := slice_own hk; rcases hat6 y hy with h | h; simp only [Value.ownBlock, Option.some.injEq] at h; omega; omega); replace hL := own_beside hL hg6 (fun k hk e => by simp only [Value.ownBlock, Option.some.injEq] at hk e; have qW1 := HSW1.out; have qW2 := HSW2.out; have qW3 := HSW3.out; omega); replace hZ := own_beside hZ hg6 (fun k hk e => own_ne hZ hA (by decide) hk e.symm rfl); have hz6 : W3.heap.size ≤ W4.heap.size := hg6.size; replace hBW := hBW.grown hg6 hBW.size (fun k hk => by simp only [Value.ownBlock, Option.some.injEq] at hk; omega); replace hR : Reads1 ⟨r, 4 + 1, none⟩ (.slice B'.aS KK B'.cS) W4 := ⟨keep_old hBW HE1.out, trivial⟩; clear hat6 hg6 hA
                    refine hK.out _ _ hR (fun hHeld => ?_)
                    clear hK K
                    (try simp only [Act.put, List.setIfInBounds_toArray, List.set_cons_zero, List.set_cons_succ])
                    refine wpAnyK_ready (rs := [9]) (by kernel_rfl) (by simp) ?_
                    refine AllReadyK.cons (op_at _ 9 _ rfl) (fun K hK => ?_) AllReadyK.nil
                    refine step_app rfl (.tmp 89) (.tmp 91) el66 rfl (.slice a6 KK c6) KK B'.us rfl ho6 (some ⟨W2.heap.size, 0, none⟩) 1 1 [.slice (some ⟨W1.heap.size, 0, none⟩) 128 128] rfl (src_row hL (by intro u hu; simp at hu; subst hu; rfl)) (by omega) ?_; intro a9 c9 w9 ho9 hg9 hat9; have hl9 := hBW.size; replace hZ := own_beside hZ hg9 (fun k hk e => own_ne hZ ho6 (by decide) hk e.symm rfl); have ha9 : ∀ a, a9 = some a → wr.heap.size ≤ a.block := (fun a ha => by rcases hat9 a ha with h | h; exact ha6 _ h; omega); replace hBW := hBW.grown hg9 hBW.size ha6; replace hR : Reads1 ⟨r, 4 + 1, none⟩ (.slice B'.aS KK B'.cS) w9 := ⟨keep_old hBW HE1.out, trivial⟩; have e9 := hR.1; have f9 : w9.frozen? ⟨r, 4 + 1, none⟩ = false := (keep_frozen hBW hrl).trans f1; have HNO := hid (cut_step hI.out HKK.out hrl hBW ho9 (sec_new hZ (fun y hy => by cases hy; have := hI.out.fr.size; show w2.heap.size ≤ W1.heap.size; omega)) ha9); clear ho9 hg9 hat9 hL ho6 ha6
                    refine hK.out _ _ hR (fun hHeld => ?_)
                    clear hK K
                    (try simp only [Act.put, List.setIfInBounds_toArray, List.set_cons_zero, List.set_cons_succ])
                    refine wpAnyK_pure (i := 10) (v := ?_) (op_at _ 10 _ rfl) (by kernel_rfl) (by kernel_rfl) (by kernel_rfl) (by kernel_rfl) (fun _ _ _ h => h) (Or.inl ⟨by rfl, ?_⟩) (Or.inl (by assumption)) ?_
                    rotate_left 1
                    focus (intro W hSw; go_simp; first | done | with_reducible rfl)
                    (try simp only [Act.put, List.setIfInBounds_toArray, List.set_cons_zero, List.set_cons_succ])
                    refine wpAnyK_pure (i := 11) (v := ?_) (op_at _ 11 _ rfl) (by kernel_rfl) (by kernel_rfl) (by kernel_rfl) (by kernel_rfl) (fun _ _ _ h => h) (Or.inl ⟨by rfl, ?_⟩) (Or.inl (by assumption)) ?_
                    rotate_left 1
                    focus (intro W hSw; go_simp; first | done | with_reducible rfl)
                    (try simp only [Act.put, List.setIfInBounds_toArray, List.set_cons_zero, List.set_cons_succ])
                    refine wpAnyK_ready (rs := [12]) (by kernel_rfl) (by simp) ?_
                    refine AllReadyK.late (op_at _ 12 _ rfl) (by kernel_rfl) (fun K hK => ?_) AllReadyK.nil
                    go_simp
                    refine hK.out _ _ ?_
                    clear hK K
                    (try simp only [Act.put, List.setIfInBounds_toArray, List.set_cons_zero, List.set_cons_succ])
                    refine wpAnyK_done (by kernel_rfl) ?_ _
                    obtain ⟨W10, hW10⟩ : ∃ W', W' = w9.setCell ⟨r, 4 + 1, none⟩ (.slice a9 (KK + 1) c9) := ⟨_, rfl⟩
                    rw [← hW10] at HNO ⊢
                    go_wp2
                    go_roundg (gk - 1)
                    case measure => have := HKN.out; omega
                    case rel => exact ⟨j + 1, _, by have := HKN.out; omega, HNO⟩
                  exact AllReadyK.nil
                exact AllReadyK.nil
              refine AllReadyK.cons (op_at _ 7 _ rfl) (fun K hK => ?_) ?_
              · go_simp
                obtain ⟨W1, hW1⟩ : ∃ W', W' = W0.alloc (.cells (Array.replicate 128 (.int .u8 0)) 5) := ⟨_, rfl⟩; rw [← hW1]; have hbW1 : Below W0.heap.size W0 W1 := (by rw [hW1]; exact (Below.refl _ _).alloc (Nat.le_refl _) _); have HSW1 : Hid (W1.heap.size = W0.heap.size + 1) := hid (by rw [hW1]; simp); have hlW1 : wr.heap.size ≤ W0.heap.size := hBW.size; have hZ : W1.ownsRow 0 5 1 (.slice (some ⟨W0.heap.size, 0, none⟩) 128 128) 128 (bs noughts) := (by rw [hW1]; exact ⟨by simp [bs, noughts], .inr ⟨_, _, _, rfl, Nat.zero_le _, heap_alloc_new _ _, Nat.le_refl _, by decide, by simp, by simp [bs, noughts]⟩⟩); replace hBW := hBW.trans (hbW1.mono hBW.size); replace hR := hR.keep hbW1; clear hW1
                refine hK.out _ _ hR (fun hHeld => ?_)
                clear hK K
                (try simp only [Act.put, List.setIfInBounds_toArray, List.set_cons_zero, List.set_cons_succ])
                refine wpAnyK_ready (rs := [1, 8]) (by kernel_rfl) (by simp) ?_
                refine AllReadyK.cons (op_at _ 1 _ rfl) (fun K hK => ?_) ?_
                · go_simp
                  obtain ⟨W2, hW2⟩ : ∃ W', W' = W1.alloc (.cells #[] 37) := ⟨_, rfl⟩; rw [← hW2]; have hbW2 : Below W1.heap.size W1 W2 := (by rw [hW2]; exact (Below.refl _ _).alloc (Nat.le_refl _) _); have HSW2 : Hid (W2.heap.size = W1.heap.size + 1) := hid (by rw [hW2]; simp); have hlW2 : wr.heap.size ≤ W1.heap.size := hBW.size; replace hZ := own_later hZ hbW2; have hA : W2.ownsRow 0 37 1 (.slice (some ⟨W1.heap.size, 0, none⟩) 0 0) 0 [] := (by rw [hW2]; exact World.ownsRow_made W1 #[] 0 (Nat.zero_le _) (by decide) rfl); replace hBW := hBW.trans (hbW2.mono hBW.size); replace hR := hR.keep hbW2; clear hW2
                  refine hK.out _ _ hR (fun hHeld => ?_)
                  clear hK K
                  (try simp only [Act.put, List.setIfInBounds_toArray, List.set_cons_zero, List.set_cons_succ])
                  refine wpAnyK_ready (rs := [6, 8]) (by kernel_rfl) (by simp) ?_
                  refine AllReadyK.cons (op_at _ 6 _ rfl) (fun K hK => ?_) ?_
                  · refine step_app rfl (.tmp 84) (.tmp 88) el66 rfl (.slice (some ⟨W1.heap.size, 0, none⟩) 0 0) 0 [] rfl hA B'.aS KK B'.cS B'.us rfl (src_row (own_later RS.out hBW) HONE.out) (by omega) ?_; simp only [Nat.zero_add, List.nil_append]; intro a6 c6 W3 ho6 hg6 hat6; have hl6 := hBW.size; have ha6 : ∀ k, (Value.slice a6 KK c6).ownBlock = some k → wr.heap.size ≤ k := (fun k hk => by obtain ⟨y, hy, rfl⟩ := slice_own hk; rcases hat6 y hy with h | h; simp only [Value.ownBlock, Option.some.injEq] at h; omega; omega); replace hZ := own_beside hZ hg6 (fun k hk e => own_ne hZ hA (by decide) hk e.symm rfl); have hz6 : W2.heap.size ≤ W3.heap.size := hg6.size; replace hBW := hBW.grown hg6 hBW.size (fun k hk => by simp only [Value.ownBlock, Option.some.injEq] at hk; omega); replace hR : Reads1 ⟨r, 4 + 1, none⟩ (.slice B'.aS KK B'.cS) W3 := ⟨keep_old hBW HE1.out, trivial⟩; clear hat6 hg6 hA
                    refine hK.out _ _ hR (fun hHeld => ?_)
                    clear hK K
                    (try simp only [Act.put, List.setIfInBounds_toArray, List.set_cons_zero, List.set_cons_succ])
                    refine wpAnyK_ready (rs := [8]) (by kernel_rfl) (by simp) ?_
                    refine AllReadyK.cons (op_at _ 8 _ rfl) (fun K hK => ?_) AllReadyK.nil
                    go_simp
                    obtain ⟨W4, hW4⟩ : ∃ W', W' = W3.alloc (.cells #[.slice (some ⟨W0.heap.size, 0, none⟩) 128 128] 37) := ⟨_, rfl⟩; rw [← hW4]; have hbW4 : Below W3.heap.size W3 W4 := (by rw [hW4]; exact (Below.refl _ _).alloc (Nat.le_refl _) _); have HSW4 : Hid (W4.heap.size = W3.heap.size + 1) := hid (by rw [hW4]; simp); have hlW4 : wr.heap.size ≤ W3.heap.size := hBW.size; replace hZ := own_later hZ hbW4; replace ho6 := own_later ho6 hbW4; have hL : W4.ownsRow 0 37 1 (.slice (some ⟨W3.heap.size, 0, none⟩) 1 1) 1 [.slice (some ⟨W0.heap.size, 0, none⟩) 128 128] := (by rw [hW4]; exact own_lit W3 37 _); replace hBW := hBW.trans (hbW4.mono hBW.size); replace hR := hR.keep hbW4; clear hW4
                    refine hK.out _ _ hR (fun hHeld => ?_)
                    clear hK K
                    (try simp only [Act.put, List.setIfInBounds_toArray, List.set_cons_zero, List.set_cons_succ])
                    refine wpAnyK_ready (rs := [9]) (by kernel_rfl) (by simp) ?_
                    refine AllReadyK.cons (op_at _ 9 _ rfl) (fun K hK => ?_) AllReadyK.nil
                    refine step_app rfl (.tmp 89) (.tmp 91) el66 rfl (.slice a6 KK c6) KK B'.us rfl ho6 (some ⟨W3.heap.size, 0, none⟩) 1 1 [.slice (some ⟨W0.heap.size, 0, none⟩) 128 128] rfl (src_row hL (by intro u hu; simp at hu; subst hu; rfl)) (by omega) ?_; intro a9 c9 w9 ho9 hg9 hat9; have hl9 := hBW.size; replace hZ := own_beside hZ hg9 (fun k hk e => own_ne hZ ho6 (by decide) hk e.symm rfl); have ha9 : ∀ a, a9 = some a → wr.heap.size ≤ a.block := (fun a ha => by rcases hat9 a ha with h | h; exact ha6 _ h; omega); replace hBW := hBW.grown hg9 hBW.size ha6; replace hR : Reads1 ⟨r, 4 + 1, none⟩ (.slice B'.aS KK B'.cS) w9 := ⟨keep_old hBW HE1.out, trivial⟩; have e9 := hR.1; have f9 : w9.frozen? ⟨r, 4 + 1, none⟩ = false := (keep_frozen hBW hrl).trans f1; have HNO := hid (cut_step hI.out HKK.out hrl hBW ho9 (sec_new hZ (fun y hy => by cases hy; have := hI.out.fr.size; show w2.heap.size ≤ W0.heap.size; omega)) ha9); clear ho9 hg9 hat9 hL ho6 ha6
                    refine hK.out _ _ hR (fun hHeld => ?_)
                    clear hK K
                    (try simp only [Act.put, List.setIfInBounds_toArray, List.set_cons_zero, List.set_cons_succ])
                    refine wpAnyK_pure (i := 10) (v := ?_) (op_at _ 10 _ rfl) (by kernel_rfl) (by kernel_rfl) (by kernel_rfl) (by kernel_rfl) (fun _ _ _ h => h) (Or.inl ⟨by rfl, ?_⟩) (Or.inl (by assumption)) ?_
                    rotate_left 1
                    focus (intro W hSw; go_simp; first | done | with_reducible rfl)
                    (try simp only [Act.put, List.setIfInBounds_toArray, List.set_cons_zero, List.set_cons_succ])
                    refine wpAnyK_pure (i := 11) (v := ?_) (op_at _ 11 _ rfl) (by kernel_rfl) (by kernel_rfl) (by kernel_rfl) (by kernel_rfl) (fun _ _ _ h => h) (Or.inl ⟨by rfl, ?_⟩) (Or.inl (by assumption)) ?_
                    rotate_left 1
                    focus (intro W hSw; go_simp; first | done | with_reducible rfl)
                    (try simp only [Act.put, List.setIfInBounds_toArray, List.set_cons_zero, List.set_cons_succ])
                    refine wpAnyK_ready (rs := [12]) (by kernel_rfl) (by simp) ?_
                    refine AllReadyK.late (op_at _ 12 _ rfl) (by kernel_rfl) (fun K hK => ?_) AllReadyK.nil
                    go_simp
                    refine hK.out _ _ ?_
                    clear hK K
                    (try simp only [Act.put, List.setIfInBounds_toArray, List.set_cons_zero, List.set_cons_succ])
                    refine wpAnyK_done (by kernel_rfl) ?_ _
                    obtain ⟨W10, hW10⟩ : ∃ W', W' = w9.setCell ⟨r, 4 + 1, none⟩ (.slice a9 (KK + 1) c9) := ⟨_, rfl⟩
                    rw [← hW10] at HNO ⊢
                    go_wp2
                    go_roundg (gk - 1)
                    case measure => have := HKN.out; omega
                    case rel => exact ⟨j + 1, _, by have := HKN.out; omega, HNO⟩
                  refine AllReadyK.cons (op_at _ 8 _ rfl) (fun K hK => ?_) ?_
                  · go_simp
                    obtain ⟨W3, hW3⟩ : ∃ W', W' = W2.alloc (.cells #[.slice (some ⟨W0.heap.size, 0, none⟩) 128 128] 37) := ⟨_, rfl⟩; rw [← hW3]; have hbW3 : Below W2.heap.size W2 W3 := (by rw [hW3]; exact (Below.refl _ _).alloc (Nat.le_refl _) _); have HSW3 : Hid (W3.heap.size = W2.heap.size + 1) := hid (by rw [hW3]; simp); have hlW3 : wr.heap.size ≤ W2.heap.size := hBW.size; replace hA := own_later hA hbW3; replace hZ := own_later hZ hbW3; have hL : W3.ownsRow 0 37 1 (.slice (some ⟨W2.heap.size, 0, none⟩) 1 1) 1 [.slice (some ⟨W0.heap.size, 0, none⟩) 128 128] := (by rw [hW3]; exact own_lit W2 37 _); replace hBW := hBW.trans (hbW3.mono hBW.size); replace hR := hR.keep hbW3; clear hW3
                    refine hK.out _ _ hR (fun hHeld => ?_)
                    clear hK K
                    (try simp only [Act.put, List.setIfInBounds_toArray, List.set_cons_zero, List.set_cons_succ])
                    refine wpAnyK_ready (rs := [6]) (by kernel_rfl) (by simp) ?_
                    refine AllReadyK.cons (op_at _ 6 _ rfl) (fun K hK => ?_) AllReadyK.nil
                    refine step_app rfl (.tmp 84) (.tmp 88) el66 rfl (.slice (some ⟨W1.heap.size, 0, none⟩) 0 0) 0 [] rfl hA B'.aS KK B'.cS B'.us rfl (src_row (own_later RS.out hBW) HONE.out) (by omega) ?_; simp only [Nat.zero_add, List.nil_append]; intro a6 c6 W4 ho6 hg6 hat6; have hl6 := hBW.size; have ha6 : ∀ k, (Value.slice a6 KK c6).ownBlock = some k → wr.heap.size ≤ k := (fun k hk => by obtain ⟨y, hy, rfl⟩ := slice_own hk; rcases hat6 y hy with h | h; simp only [Value.ownBlock, Option.some.injEq] at h; omega; omega); replace hL := own_beside hL hg6 (fun k hk e => by simp only [Value.ownBlock, Option.some.injEq] at hk e; have qW1 := HSW1.out; have qW2 := HSW2.out; have qW3 := HSW3.out; omega); replace hZ := own_beside hZ hg6 (fun k hk e => own_ne hZ hA (by decide) hk e.symm rfl); have hz6 : W3.heap.size ≤ W4.heap.size := hg6.size; replace hBW := hBW.grown hg6 hBW.size (fun k hk => by simp only [Value.ownBlock, Option.some.injEq] at hk; omega); replace hR : Reads1 ⟨r, 4 + 1, none⟩ (.slice B'.aS KK B'.cS) W4 := ⟨keep_old hBW HE1.out, trivial⟩; clear hat6 hg6 hA
                    refine hK.out _ _ hR (fun hHeld => ?_)
                    clear hK K
                    (try simp only [Act.put, List.setIfInBounds_toArray, List.set_cons_zero, List.set_cons_succ])
                    refine wpAnyK_ready (rs := [9]) (by kernel_rfl) (by simp) ?_
                    refine AllReadyK.cons (op_at _ 9 _ rfl) (fun K hK => ?_) AllReadyK.nil
                    refine step_app rfl (.tmp 89) (.tmp 91) el66 rfl (.slice a6 KK c6) KK B'.us rfl ho6 (some ⟨W2.heap.size, 0, none⟩) 1 1 [.slice (some ⟨W0.heap.size, 0, none⟩) 128 128] rfl (src_row hL (by intro u hu; simp at hu; subst hu; rfl)) (by omega) ?_; intro a9 c9 w9 ho9 hg9 hat9; have hl9 := hBW.size; replace hZ := own_beside hZ hg9 (fun k hk e => own_ne hZ ho6 (by decide) hk e.symm rfl); have ha9 : ∀ a, a9 = some a → wr.heap.size ≤ a.block := (fun a ha => by rcases hat9 a ha with h | h; exact ha6 _ h; omega); replace hBW := hBW.grown hg9 hBW.size ha6; replace hR : Reads1 ⟨r, 4 + 1, none⟩ (.slice B'.aS KK B'.cS) w9 := ⟨keep_old hBW HE1.out, trivial⟩; have e9 := hR.1; have f9 : w9.frozen? ⟨r, 4 + 1, none⟩ = false := (keep_frozen hBW hrl).trans f1; have HNO := hid (cut_step hI.out HKK.out hrl hBW ho9 (sec_new hZ (fun y hy => by cases hy; have := hI.out.fr.size; show w2.heap.size ≤ W0.heap.size; omega)) ha9); clear ho9 hg9 hat9 hL ho6 ha6
                    refine hK.out _ _ hR (fun hHeld => ?_)
                    clear hK K
                    (try simp only [Act.put, List.setIfInBounds_toArray, List.set_cons_zero, List.set_cons_succ])
                    refine wpAnyK_pure (i := 10) (v := ?_) (op_at _ 10 _ rfl) (by kernel_rfl) (by kernel_rfl) (by kernel_rfl) (by kernel_rfl) (fun _ _ _ h => h) (Or.inl ⟨by rfl, ?_⟩) (Or.inl (by assumption)) ?_
                    rotate_left 1
                    focus (intro W hSw; go_simp; first | done | with_reducible rfl)
                    (try simp only [Act.put, List.setIfInBounds_toArray, List.set_cons_zero, List.set_cons_succ])
                    refine wpAnyK_pure (i := 11) (v := ?_) (op_at _ 11 _ rfl) (by kernel_rfl) (by kernel_rfl) (by kernel_rfl) (by kernel_rfl) (fun _ _ _ h => h) (Or.inl ⟨by rfl, ?_⟩) (Or.inl (by assumption)) ?_
                    rotate_left 1
                    focus (intro W hSw; go_simp; first | done | with_reducible rfl)
                    (try simp only [Act.put, List.setIfInBounds_toArray, List.set_cons_zero, List.set_cons_succ])
                    refine wpAnyK_ready (rs := [12]) (by kernel_rfl) (by simp) ?_
                    refine AllReadyK.late (op_at _ 12 _ rfl) (by kernel_rfl) (fun K hK => ?_) AllReadyK.nil
                    go_simp
                    refine hK.out _ _ ?_
                    clear hK K
                    (try simp only [Act.put, List.setIfInBounds_toArray, List.set_cons_zero, List.set_cons_succ])
                    refine wpAnyK_done (by kernel_rfl) ?_ _
                    obtain ⟨W10, hW10⟩ : ∃ W', W' = w9.setCell ⟨r, 4 + 1, none⟩ (.slice a9 (KK + 1) c9) := ⟨_, rfl⟩
                    rw [← hW10] at HNO ⊢
                    go_wp2
                    go_roundg (gk - 1)
                    case measure => have := HKN.out; omega
                    case rel => exact ⟨j + 1, _, by have := HKN.out; omega, HNO⟩
                  exact AllReadyK.nil
                refine AllReadyK.cons (op_at _ 8 _ rfl) (fun K hK => ?_) ?_
                · go_simp
                  obtain ⟨W2, hW2⟩ : ∃ W', W' = W1.alloc (.cells #[.slice (some ⟨W0.heap.size, 0, none⟩) 128 128] 37) := ⟨_, rfl⟩; rw [← hW2]; have hbW2 : Below W1.heap.size W1 W2 := (by rw [hW2]; exact (Below.refl _ _).alloc (Nat.le_refl _) _); have HSW2 : Hid (W2.heap.size = W1.heap.size + 1) := hid (by rw [hW2]; simp); have hlW2 : wr.heap.size ≤ W1.heap.size := hBW.size; replace hZ := own_later hZ hbW2; have hL : W2.ownsRow 0 37 1 (.slice (some ⟨W1.heap.size, 0, none⟩) 1 1) 1 [.slice (some ⟨W0.heap.size, 0, none⟩) 128 128] := (by rw [hW2]; exact own_lit W1 37 _); replace hBW := hBW.trans (hbW2.mono hBW.size); replace hR := hR.keep hbW2; clear hW2
                  refine hK.out _ _ hR (fun hHeld => ?_)
                  clear hK K
                  (try simp only [Act.put, List.setIfInBounds_toArray, List.set_cons_zero, List.set_cons_succ])
                  refine wpAnyK_ready (rs := [1]) (by kernel_rfl) (by simp) ?_
                  refine AllReadyK.cons (op_at _ 1 _ rfl) (fun K hK => ?_) AllReadyK.nil
                  go_simp
                  obtain ⟨W3, hW3⟩ : ∃ W', W' = W2.alloc (.cells #[] 37) := ⟨_, rfl⟩; rw [← hW3]; have hbW3 : Below W2.heap.size W2 W3 := (by rw [hW3]; exact (Below.refl _ _).alloc (Nat.le_refl _) _); have HSW3 : Hid (W3.heap.size = W2.heap.size + 1) := hid (by rw [hW3]; simp); have hlW3 : wr.heap.size ≤ W2.heap.size := hBW.size; replace hL := own_later hL hbW3; replace hZ := own_later hZ hbW3; have hA : W3.ownsRow 0 37 1 (.slice (some ⟨W2.heap.size, 0, none⟩) 0 0) 0 [] := (by rw [hW3]; exact World.ownsRow_made W2 #[] 0 (Nat.zero_le _) (by decide) rfl); replace hBW := hBW.trans (hbW3.mono hBW.size); replace hR := hR.keep hbW3; clear hW3
                  refine hK.out _ _ hR (fun hHeld => ?_)
                  clear hK K
                  (try simp only [Act.put, List.setIfInBounds_toArray, List.set_cons_zero, List.set_cons_succ])
                  refine wpAnyK_ready (rs := [6]) (by kernel_rfl) (by simp) ?_
                  refine AllReadyK.cons (op_at _ 6 _ rfl) (fun K hK => ?_) AllReadyK.nil
                  refine step_app rfl (.tmp 84) (.tmp 88) el66 rfl (.slice (some ⟨W2.heap.size, 0, none⟩) 0 0) 0 [] rfl hA B'.aS KK B'.cS B'.us rfl (src_row (own_later RS.out hBW) HONE.out) (by omega) ?_; simp only [Nat.zero_add, List.nil_append]; intro a6 c6 W4 ho6 hg6 hat6; have hl6 := hBW.size; have ha6 : ∀ k, (Value.slice a6 KK c6).ownBlock = some k → wr.heap.size ≤ k := (fun k hk => by obtain ⟨y, hy, rfl⟩ := slice_own hk; rcases hat6 y hy with h | h; simp only [Value.ownBlock, Option.some.injEq] at h; omega; omega); replace hL := own_beside hL hg6 (fun k hk e => by simp only [Value.ownBlock, Option.some.injEq] at hk e; have qW1 := HSW1.out; have qW2 := HSW2.out; have qW3 := HSW3.out; omega); replace hZ := own_beside hZ hg6 (fun k hk e => own_ne hZ hA (by decide) hk e.symm rfl); have hz6 : W3.heap.size ≤ W4.heap.size := hg6.size; replace hBW := hBW.grown hg6 hBW.size (fun k hk => by simp only [Value.ownBlock, Option.some.injEq] at hk; omega); replace hR : Reads1 ⟨r, 4 + 1, none⟩ (.slice B'.aS KK B'.cS) W4 := ⟨keep_old hBW HE1.out, trivial⟩; clear hat6 hg6 hA
                  refine hK.out _ _ hR (fun hHeld => ?_)
                  clear hK K
                  (try simp only [Act.put, List.setIfInBounds_toArray, List.set_cons_zero, List.set_cons_succ])
                  refine wpAnyK_ready (rs := [9]) (by kernel_rfl) (by simp) ?_
                  refine AllReadyK.cons (op_at _ 9 _ rfl) (fun K hK => ?_) AllReadyK.nil
                  refine step_app rfl (.tmp 89) (.tmp 91) el66 rfl (.slice a6 KK c6) KK B'.us rfl ho6 (some ⟨W1.heap.size, 0, none⟩) 1 1 [.slice (some ⟨W0.heap.size, 0, none⟩) 128 128] rfl (src_row hL (by intro u hu; simp at hu; subst hu; rfl)) (by omega) ?_; intro a9 c9 w9 ho9 hg9 hat9; have hl9 := hBW.size; replace hZ := own_beside hZ hg9 (fun k hk e => own_ne hZ ho6 (by decide) hk e.symm rfl); have ha9 : ∀ a, a9 = some a → wr.heap.size ≤ a.block := (fun a ha => by rcases hat9 a ha with h | h; exact ha6 _ h; omega); replace hBW := hBW.grown hg9 hBW.size ha6; replace hR : Reads1 ⟨r, 4 + 1, none⟩ (.slice B'.aS KK B'.cS) w9 := ⟨keep_old hBW HE1.out, trivial⟩; have e9 := hR.1; have f9 : w9.frozen? ⟨r, 4 + 1, none⟩ = false := (keep_frozen hBW hrl).trans f1; have HNO := hid (cut_step hI.out HKK.out hrl hBW ho9 (sec_new hZ (fun y hy => by cases hy; have := hI.out.fr.size; show w2.heap.size ≤ W0.heap.size; omega)) ha9); clear ho9 hg9 hat9 hL ho6 ha6
                  refine hK.out _ _ hR (fun hHeld => ?_)
                  clear hK K
                  (try simp only [Act.put, List.setIfInBounds_toArray, List.set_cons_zero, List.set_cons_succ])
                  refine wpAnyK_pure (i := 10) (v := ?_) (op_at _ 10 _ rfl) (by kernel_rfl) (by kernel_rfl) (by kernel_rfl) (by kernel_rfl) (fun _ _ _ h => h) (Or.inl ⟨by rfl, ?_⟩) (Or.inl (by assumption)) ?_
                  rotate_left 1
                  focus (intro W hSw; go_simp; first | done | with_reducible rfl)
                  (try simp only [Act.put, List.setIfInBounds_toArray, List.set_cons_zero, List.set_cons_succ])
                  refine wpAnyK_pure (i := 11) (v := ?_) (op_at _ 11 _ rfl) (by kernel_rfl) (by kernel_rfl) (by kernel_rfl) (by kernel_rfl) (fun _ _ _ h => h) (Or.inl ⟨by rfl, ?_⟩) (Or.inl (by assumption)) ?_
                  rotate_left 1
                  focus (intro W hSw; go_simp; first | done | with_reducible rfl)
                  (try simp only [Act.put, List.setIfInBounds_toArray, List.set_cons_zero, List.set_cons_succ])
                  refine wpAnyK_ready (rs := [12]) (by kernel_rfl) (by simp) ?_
                  refine AllReadyK.late (op_at _ 12 _ rfl) (by kernel_rfl) (fun K hK => ?_) AllReadyK.nil
                  go_simp
                  refine hK.out _ _ ?_
                  clear hK K
                  (try simp only [Act.put, List.setIfInBounds_toArray, List.set_cons_zero, List.set_cons_succ])
                  refine wpAnyK_done (by kernel_rfl) ?_ _
                  obtain ⟨W10, hW10⟩ : ∃ W', W' = w9.setCell ⟨r, 4 + 1, none⟩ (.slice a9 (KK + 1) c9) := ⟨_, rfl⟩
                  rw [← hW10] at HNO ⊢
                  go_wp2
                  go_roundg (gk - 1)
                  case measure => have := HKN.out; omega
                  case rel => exact ⟨j + 1, _, by have := HKN.out; omega, HNO⟩
                exact AllReadyK.nil
              exact AllReadyK.nil
            · have hkE : KK = N := by have := HKN.out; omega
              have hkN' : ¬ ((KK : Int) < (N : Int)) := by omega
              go_wp2
              go_ret
              have hI' := hI.out
              have ht : FTurn w2 wr r 4 R.S1 R.B1 (cutF (tickD d).f1 N) B' := by
                have hc : (⟨F.now.take N, F.old.take N ++ List.replicate j noughts, F.dirt.take N⟩ : FS) = cutF (tickD d).f1 N := by
                  rw [show (tickD d).f1 = d.f1 from rfl, ← HF.out]
                  unfold cutF
                  rw [show j = N - F.old.length by have := HKN.out; rw [← HOL.out]; omega]
                rw [← hc, ← HB.out]
                exact ⟨hI'.rf, hI'.fr, hI'.mu⟩
              have hok := hd.out.ok
              have hNl : N ≤ (tickD d).f1.now.length := by show N ≤ d.f1.now.length; rw [← HLL.out]; exact hNL
              have hcl := cutF_now (tickD d).f1 N hNl
              obtain ⟨h1, h2, h3⟩ := hd.out.file1 ht ⟨hok.r1, hok.r2, by show (tickD d).f0.now.length + (cutF (tickD d).f1 N).now.length ≤ (tickD d).room; rw [hcl]; have := hok.sum; omega, hok.ok0, cutF_ok hok.ok1 hNl, hok.kl, hok.tn, hok.lf, hok.op⟩
              exact ⟨rfl, ⟨_, h1, h2.of hfr.out.size⟩, hfr.out.trans (h3.imp (fun _ _ h => Or.inl h))⟩


theorem rcut_call (r : Nat) (R : RParts) (d : DS) (f n : Int) (w : World) (h : RefP w r R d) (hop : d.ops < 1000000000) :
    Calls Try.prog 33 #[.pointer (some ⟨r, 0, none⟩), .int .i64 f, .int .i64 n] w fun e w' => e = .returned (.int .i64 (cutD d f n).1) ∧ (∃ R', RefP w' r R' (cutD d f n).2 ∧ RGrew R w R') ∧ DFrame w w' r R.mut := by
  by_cases hx : d.off = true ∨ known f = false
  · have e : cutD d f n = (if d.off then 4 else 11, d) := by
      unfold cutD
      rcases hx with h | h
      · simp [h]
      · cases d.off <;> simp [h]
    rw [e]
    refine (rcut_off r R d f n w h hx).mono ?_
    rintro e w' ⟨rfl, rfl⟩
    exact ⟨rfl, ⟨R, h, RGrew.refl _ _⟩, DFrame.refl _ _ _⟩
  · have ho : d.off = false := by cases h' : d.off; rfl; exact absurd (Or.inl h') hx
    have hk : known f = true := by cases h' : known f; exact absurd (Or.inr h') hx; rfl
    rcases known_cases hk with rfl | rfl
    · exact rcut_0 r R d n w h ho hop
    · exact rcut_1 r R d n w h ho hop

end Go.Proofs.Ytkgenmooepfhjaa
