/- Whether a disk and the document's tell the same; no statement of the seat is proved here. -/
import Derived.Test.YtkgenmooepfhjaaFb
namespace Go.Proofs.Ytkgenmooepfhjaa
open Go.RowKit Go.Maps

theorem read_x {p : Nat} {P : Parts} {d : DS} {f a n : Int} {w : World} {xs : List Nat} {er : Int} (h : DiskP w p P d) (ha : I64 a) (hn : I64 n) (hx : readD d f a n = (xs, er)) :
    Calls Try.prog 14 #[.pointer (some ⟨p, 0, none⟩), .int .i64 f, .int .i64 a, .int .i64 n] w fun e w' => ∃ ro rc, e = .returned (.tuple #[.slice ro xs.length rc, .int .i64 er]) ∧ Rd w' ro xs.length rc xs ∧ Below w.heap.size w w' := by
  have := read_call p P d f a n w h ha hn
  rw [hx] at this
  refine this.mono ?_
  rintro e w' ⟨ro, rc, rfl, h1, _, h2⟩
  exact ⟨ro, rc, rfl, h1, h2⟩
theorem rread_x {r : Nat} {R : RParts} {d : DS} {f a n : Int} {w : World} {xs : List Nat} {er : Int} (h : RefP w r R d) (ha : I64 a) (hn : I64 n) (hx : readD d f a n = (xs, er)) :
    Calls Try.prog 15 #[.pointer (some ⟨r, 0, none⟩), .int .i64 f, .int .i64 a, .int .i64 n] w fun e w' => ∃ ro rc, e = .returned (.tuple #[.slice ro xs.length rc, .int .i64 er]) ∧ Rd w' ro xs.length rc xs ∧ Below w.heap.size w w' := by
  have := rread_call r R d f a n w h ha hn
  rw [hx] at this
  refine this.mono ?_
  rintro e w' ⟨ro, rc, rfl, h1, _, h2⟩
  exact ⟨ro, rc, rfl, h1, h2⟩
theorem cvt' {W : World} {ao : Option Addr} {n cap : Nat} {xs : List Nat} (h : Rd W ao n cap xs) : (convert 37 9 (.slice ao n cap)).run Try.prog W = .ok (.string (str xs)) W := conv_rd h 37 9 5 Try.underlying37 Try.underlying5 Try.underlying9
theorem len_le {w : World} {p : Nat} {P : Parts} {d : DS} (h : DiskP w p P d) (f : Int) : lenD d f ≤ 32768 := by
  have := h.ok.sum; have := h.ok.r2
  unfold lenD DS.file
  split
  · split <;> omega
  · omega

def Reads3 (r : Nat) (u v x : Value) (W : World) : Prop := W.cell? ⟨r, 0, none⟩ = some u ∧ W.cell? ⟨r, 7, none⟩ = some v ∧ W.cell? ⟨r, 8, none⟩ = some x

set_option maxHeartbeats 8000000 in
set_option maxRecDepth 20000 in
theorem alike_any (w1 W : World) (p r : Nat) (P : Parts) (R : RParts) (d : DS) (h : Both w1 W p r P R d d) :
    Calls Try.prog 13 #[.pointer (some ⟨p, 0, none⟩), .pointer (some ⟨r, 0, none⟩)] W fun e w' => e = .returned (.bool true) ∧ Below W.heap.size W w' := by
  have H := hid h
  clear h
  go_enter Try.func13, Try.ntmps13
  go_wp2_with fail
  go_loopg [5] 4 (fun k c W' => ∃ f : Int, f + (k : Int) = 3 ∧ -1 ≤ f ∧ c = .int .i64 f ∧ Hid (Below W.heap.size W W'))
  case atStart => exact ⟨-1, by omega, by omega, rfl, hid (Below.refl _ _)⟩
  case round =>
    obtain ⟨f, hfk, hf0, rfl, hbw⟩ := hrel
    have HB := hid (H.out.later hbw.out)
    by_cases hf : f < 3
    · obtain ⟨L, hL⟩ : ∃ L, L = lenD d f := ⟨_, rfl⟩
      obtain ⟨Dn, hDn⟩ : ∃ Dn, Dn = dirtyD d f := ⟨_, rfl⟩
      obtain ⟨xs, er, hx⟩ : ∃ xs er, readD d f 0 (L : Int) = (xs, er) := ⟨_, _, rfl⟩
      have hLb : L ≤ 32768 := by rw [hL]; exact len_le HB.out.hd f
      have CS := hid (sectors_call p P d f wr HB.out.hd)
      have CR := hid (rsectors_any r R d f wr HB.out.hr)
      have CD := hid (dirty_call p P d f wr HB.out.hd)
      have CE := hid (rdirt_any r R d f wr HB.out.hr)
      rw [← hL] at CS CR
      rw [← hDn] at CD CE
      have HX := hid hx
      have hLI : I64 (L : Int) := ⟨by omega, by omega⟩
      have HLI := hid hLI
      clear hx hL hDn hLI
      obtain ⟨xl, hxl⟩ : ∃ xl, xl = xs.length := ⟨_, rfl⟩
      have HXL := hid hxl
      clear hxl
      go_wp2_with (first
        | (go_at_call 19; refine CS.out.mono ?_; rintro e wx ⟨rfl, hwx⟩; obtain rfl := hwx.symm)
        | (go_at_call 38; refine CR.out.mono ?_; rintro e wx ⟨rfl, hwx⟩; obtain rfl := hwx.symm)
        | (go_at_call 23; refine CD.out.mono ?_; rintro e wx ⟨rfl, hwx⟩; obtain rfl := hwx.symm)
        | (go_at_call 39; refine CE.out.mono ?_; rintro e wx ⟨rfl, hwx⟩; obtain rfl := hwx.symm)
        | (go_at_call 14; refine (read_x HB.out.hd (by unfold I64; omega) HLI.out HX.out).mono ?_; rintro e w3 ⟨ro, rc, rfl, hrd, hb3⟩; rw [← HXL.out] at hrd ⊢; have HR3 := hid hrd; have HB3 := hid hb3; clear hrd hb3)
        | (go_at_call 15; refine (rread_x (HB.out.hr.later HB3.out) (by unfold I64; omega) HLI.out HX.out).mono ?_; rintro e w4 ⟨so, sc, rfl, hrd, hb4⟩; rw [← HXL.out] at hrd ⊢; have cx := cvt' (HR3.out.keep hb4); have cy := cvt' hrd; have HB4 := hid hb4; clear hrd hb4))
      go_roundg (gk - 1)
      case measure => omega
      case rel => exact ⟨f + 1, by omega, by omega, rfl, hid (gt hbw.out (gt HB3.out HB4.out))⟩
    · have c0 := HB.out.hr.c0; have c7 := HB.out.hr.c7; have c8 := HB.out.hr.c8
      go_wp2_with fail
      refine wp_region_K (S := Reads3 r (.int .i64 (d.room : Int)) (.bool d.off) (.int .i64 (d.ops : Int))) (fun _ => false) (by kernel_rfl) ⟨c0, c7, c8⟩ (fun hHeld => ?_)
      obtain ⟨W0, hW0⟩ : ∃ W0, W0 = wr.drew := ⟨_, rfl⟩
      rw [← hW0] at hHeld ⊢
      have HD0 : Hid (DiskP W0 p P d) := hid (by rw [hW0]; exact HB.out.hd.stay (Nat.le_refl _) (fun _ _ _ => rfl))
      have HB0 : Hid (Below W.heap.size W W0) := hid (by rw [hW0]; exact hbw.out.drew)
      have hR := hHeld
      clear hW0
      refine wpAnyK_pure (i := 0) (v := ?_) (op_at _ 0 _ rfl) (by kernel_rfl) (by kernel_rfl) (by kernel_rfl) (by kernel_rfl) (fun _ _ _ h => h) (Or.inl ⟨by rfl, ?_⟩) (Or.inl (by assumption)) ?_
      rotate_left 1
      focus (intro W hSw; go_simp; first | done | with_reducible rfl)
      (try simp only [Act.put, List.setIfInBounds_toArray, List.set_cons_zero, List.set_cons_succ])
      refine wpAnyK_pure (i := 2) (v := ?_) (op_at _ 2 _ rfl) (by kernel_rfl) (by kernel_rfl) (by kernel_rfl) (by kernel_rfl) (fun _ _ _ h => h) (Or.inl ⟨by rfl, ?_⟩) (Or.inl (by assumption)) ?_
      rotate_left 1
      focus (intro W hSw; go_simp; first | done | with_reducible rfl)
      (try simp only [Act.put, List.setIfInBounds_toArray, List.set_cons_zero, List.set_cons_succ])
      refine wpAnyK_pure (i := 3) (v := ?_) (op_at _ 3 _ rfl) (by kernel_rfl) (by kernel_rfl) (by kernel_rfl) (by kernel_rfl) (fun _ _ _ h => h) (Or.inl ⟨by rfl, ?_⟩) (Or.inl (by assumption)) ?_
      rotate_left 1
      focus (intro W hSw; go_simp; first | done | with_reducible rfl)
      (try simp only [Act.put, List.setIfInBounds_toArray, List.set_cons_zero, List.set_cons_succ])
      refine wpAnyK_pure (i := 4) (v := ?_) (op_at _ 4 _ rfl) (by kernel_rfl) (by kernel_rfl) (by kernel_rfl) (by kernel_rfl) (fun _ _ _ h => h) (Or.inl ⟨by rfl, ?_⟩) (Or.inl (by assumption)) ?_
      rotate_left 1
      focus (intro W hSw; go_simp; first | done | with_reducible rfl)
      (try simp only [Act.put, List.setIfInBounds_toArray, List.set_cons_zero, List.set_cons_succ])
      refine wpAnyK_take (i := 5) (v := ?_) (op_at _ 5 _ rfl) (by kernel_rfl) (by kernel_rfl) (by kernel_rfl) (by kernel_rfl) (fun _ _ _ h => h) (Or.inl ⟨by rfl, ?_⟩) (by assumption) ?_
      rotate_left 1
      focus (intro W hSw; obtain ⟨q0, q7, q8⟩ := hSw; go_simp; first | done | with_reducible rfl)
      (try simp only [Act.put, List.setIfInBounds_toArray, List.set_cons_zero, List.set_cons_succ])
      refine wpAnyK_pure (i := 6) (v := ?_) (op_at _ 6 _ rfl) (by kernel_rfl) (by kernel_rfl) (by kernel_rfl) (by kernel_rfl) (fun _ _ _ h => h) (Or.inl ⟨by rfl, ?_⟩) (Or.inl (by assumption)) ?_
      rotate_left 1
      focus (intro W hSw; go_simp; first | done | with_reducible rfl)
      (try simp only [Act.put, List.setIfInBounds_toArray, List.set_cons_zero, List.set_cons_succ])
      refine wpAnyK_ready (rs := [1]) (by kernel_rfl) (by simp) ?_
      refine AllReadyK.cons (op_at _ 1 _ rfl) (fun K hK => ?_) AllReadyK.nil
      go_simp
      go_at_call 27; refine (on_any p P d W0 HD0.out).mono ?_; rintro e wx ⟨rfl, hwx⟩; obtain rfl := hwx.symm; have hR := hHeld
      refine hK.out _ _ hR (fun hHeld => ?_)
      clear hK K
      (try simp only [Act.put, List.setIfInBounds_toArray, List.set_cons_zero, List.set_cons_succ])
      refine wpAnyK_pure (i := 7) (v := ?_) (op_at _ 7 _ rfl) (by kernel_rfl) (by kernel_rfl) (by kernel_rfl) (by kernel_rfl) (fun _ _ _ h => h) (Or.inl ⟨by rfl, ?_⟩) (Or.inl (by assumption)) ?_
      rotate_left 1
      focus (intro W hSw; go_simp; first | done | with_reducible rfl)
      (try simp only [Act.put, List.setIfInBounds_toArray, List.set_cons_zero, List.set_cons_succ])
      refine wpAnyK_pure (i := 8) (v := ?_) (op_at _ 8 _ rfl) (by kernel_rfl) (by kernel_rfl) (by kernel_rfl) (by kernel_rfl) (fun _ _ _ h => h) (Or.inl ⟨by rfl, ?_⟩) (Or.inl (by assumption)) ?_
      rotate_left 1
      focus (intro W hSw; go_simp; first | done | with_reducible rfl)
      (try simp only [Act.put, List.setIfInBounds_toArray, List.set_cons_zero, List.set_cons_succ])
      refine wpAnyK_pure (i := 9) (v := ?_) (op_at _ 9 _ rfl) (by kernel_rfl) (by kernel_rfl) (by kernel_rfl) (by kernel_rfl) (fun _ _ _ h => h) (Or.inl ⟨by rfl, ?_⟩) (Or.inl (by assumption)) ?_
      rotate_left 1
      focus (intro W hSw; go_simp; first | done | with_reducible rfl)
      (try simp only [Act.put, List.setIfInBounds_toArray, List.set_cons_zero, List.set_cons_succ])
      refine wpAnyK_pure (i := 11) (v := ?_) (op_at _ 11 _ rfl) (by kernel_rfl) (by kernel_rfl) (by kernel_rfl) (by kernel_rfl) (fun _ _ _ h => h) (Or.inl ⟨by rfl, ?_⟩) (Or.inl (by assumption)) ?_
      rotate_left 1
      focus (intro W hSw; go_simp; first | done | with_reducible rfl)
      (try simp only [Act.put, List.setIfInBounds_toArray, List.set_cons_zero, List.set_cons_succ])
      refine wpAnyK_pure (i := 12) (v := ?_) (op_at _ 12 _ rfl) (by kernel_rfl) (by kernel_rfl) (by kernel_rfl) (by kernel_rfl) (fun _ _ _ h => h) (Or.inl ⟨by rfl, ?_⟩) (Or.inl (by assumption)) ?_
      rotate_left 1
      focus (intro W hSw; go_simp; first | done | with_reducible rfl)
      (try simp only [Act.put, List.setIfInBounds_toArray, List.set_cons_zero, List.set_cons_succ])
      refine wpAnyK_pure (i := 13) (v := ?_) (op_at _ 13 _ rfl) (by kernel_rfl) (by kernel_rfl) (by kernel_rfl) (by kernel_rfl) (fun _ _ _ h => h) (Or.inl ⟨by rfl, ?_⟩) (Or.inl (by assumption)) ?_
      rotate_left 1
      focus (intro W hSw; go_simp; first | done | with_reducible rfl)
      (try simp only [Act.put, List.setIfInBounds_toArray, List.set_cons_zero, List.set_cons_succ])
      refine wpAnyK_take (i := 14) (v := ?_) (op_at _ 14 _ rfl) (by kernel_rfl) (by kernel_rfl) (by kernel_rfl) (by kernel_rfl) (fun _ _ _ h => h) (Or.inl ⟨by rfl, ?_⟩) (by assumption) ?_
      rotate_left 1
      focus (intro W hSw; obtain ⟨q0, q7, q8⟩ := hSw; go_simp; first | done | with_reducible rfl)
      (try simp only [Act.put, List.setIfInBounds_toArray, List.set_cons_zero, List.set_cons_succ])
      refine wpAnyK_ready (rs := [10]) (by kernel_rfl) (by simp) ?_
      refine AllReadyK.cons (op_at _ 10 _ rfl) (fun K hK => ?_) AllReadyK.nil
      go_simp
      go_at_call 26; refine (ops_any p P d W0 HD0.out).mono ?_; rintro e wx ⟨rfl, hwx⟩; obtain rfl := hwx.symm; have hR := hHeld
      refine hK.out _ _ hR (fun hHeld => ?_)
      clear hK K
      (try simp only [Act.put, List.setIfInBounds_toArray, List.set_cons_zero, List.set_cons_succ])
      refine wpAnyK_pure (i := 15) (v := ?_) (op_at _ 15 _ rfl) (by kernel_rfl) (by kernel_rfl) (by kernel_rfl) (by kernel_rfl) (fun _ _ _ h => h) (Or.inl ⟨by rfl, ?_⟩) (Or.inl (by assumption)) ?_
      rotate_left 1
      focus (intro W hSw; go_simp; first | done | with_reducible rfl)
      (try simp only [Act.put, List.setIfInBounds_toArray, List.set_cons_zero, List.set_cons_succ])
      refine wpAnyK_pure (i := 16) (v := ?_) (op_at _ 16 _ rfl) (by kernel_rfl) (by kernel_rfl) (by kernel_rfl) (by kernel_rfl) (fun _ _ _ h => h) (Or.inl ⟨by rfl, ?_⟩) (Or.inl (by assumption)) ?_
      rotate_left 1
      focus (intro W hSw; go_simp; first | done | with_reducible rfl)
      (try simp only [Act.put, List.setIfInBounds_toArray, List.set_cons_zero, List.set_cons_succ])
      refine wpAnyK_pure (i := 17) (v := ?_) (op_at _ 17 _ rfl) (by kernel_rfl) (by kernel_rfl) (by kernel_rfl) (by kernel_rfl) (fun _ _ _ h => h) (Or.inl ⟨by rfl, ?_⟩) (Or.inl (by assumption)) ?_
      rotate_left 1
      focus (intro W hSw; go_simp; first | done | with_reducible rfl)
      (try simp only [Act.put, List.setIfInBounds_toArray, List.set_cons_zero, List.set_cons_succ])
      refine wpAnyK_pure (i := 18) (v := ?_) (op_at _ 18 _ rfl) (by kernel_rfl) (by kernel_rfl) (by kernel_rfl) (by kernel_rfl) (fun _ _ _ h => h) (Or.inl ⟨by rfl, ?_⟩) (Or.inl (by assumption)) ?_
      rotate_left 1
      focus (intro W hSw; go_simp; first | done | with_reducible rfl)
      (try simp only [Act.put, List.setIfInBounds_toArray, List.set_cons_zero, List.set_cons_succ])
      refine wpAnyK_pure (i := 20) (v := ?_) (op_at _ 20 _ rfl) (by kernel_rfl) (by kernel_rfl) (by kernel_rfl) (by kernel_rfl) (fun _ _ _ h => h) (Or.inl ⟨by rfl, ?_⟩) (Or.inl (by assumption)) ?_
      rotate_left 1
      focus (intro W hSw; go_simp; first | done | with_reducible rfl)
      (try simp only [Act.put, List.setIfInBounds_toArray, List.set_cons_zero, List.set_cons_succ])
      refine wpAnyK_pure (i := 21) (v := ?_) (op_at _ 21 _ rfl) (by kernel_rfl) (by kernel_rfl) (by kernel_rfl) (by kernel_rfl) (fun _ _ _ h => h) (Or.inl ⟨by rfl, ?_⟩) (Or.inl (by assumption)) ?_
      rotate_left 1
      focus (intro W hSw; go_simp; first | done | with_reducible rfl)
      (try simp only [Act.put, List.setIfInBounds_toArray, List.set_cons_zero, List.set_cons_succ])
      refine wpAnyK_pure (i := 22) (v := ?_) (op_at _ 22 _ rfl) (by kernel_rfl) (by kernel_rfl) (by kernel_rfl) (by kernel_rfl) (fun _ _ _ h => h) (Or.inl ⟨by rfl, ?_⟩) (Or.inl (by assumption)) ?_
      rotate_left 1
      focus (intro W hSw; go_simp; first | done | with_reducible rfl)
      (try simp only [Act.put, List.setIfInBounds_toArray, List.set_cons_zero, List.set_cons_succ])
      refine wpAnyK_take (i := 23) (v := ?_) (op_at _ 23 _ rfl) (by kernel_rfl) (by kernel_rfl) (by kernel_rfl) (by kernel_rfl) (fun _ _ _ h => h) (Or.inl ⟨by rfl, ?_⟩) (by assumption) ?_
      rotate_left 1
      focus (intro W hSw; obtain ⟨q0, q7, q8⟩ := hSw; go_simp; first | done | with_reducible rfl)
      (try simp only [Act.put, List.setIfInBounds_toArray, List.set_cons_zero, List.set_cons_succ])
      refine wpAnyK_ready (rs := [19]) (by kernel_rfl) (by simp) ?_
      refine AllReadyK.cons (op_at _ 19 _ rfl) (fun K hK => ?_) AllReadyK.nil
      go_simp
      go_at_call 29; refine (room_any p P d W0 HD0.out).mono ?_; rintro e wx ⟨rfl, hwx⟩; obtain rfl := hwx.symm; have hR := hHeld
      refine hK.out _ _ hR (fun hHeld => ?_)
      clear hK K
      (try simp only [Act.put, List.setIfInBounds_toArray, List.set_cons_zero, List.set_cons_succ])
      refine wpAnyK_pure (i := 24) (v := ?_) (op_at _ 24 _ rfl) (by kernel_rfl) (by kernel_rfl) (by kernel_rfl) (by kernel_rfl) (fun _ _ _ h => h) (Or.inl ⟨by rfl, ?_⟩) (Or.inl (by assumption)) ?_
      rotate_left 1
      focus (intro W hSw; go_simp; first | done | with_reducible rfl)
      (try simp only [Act.put, List.setIfInBounds_toArray, List.set_cons_zero, List.set_cons_succ])
      refine wpAnyK_pure (i := 25) (v := ?_) (op_at _ 25 _ rfl) (by kernel_rfl) (by kernel_rfl) (by kernel_rfl) (by kernel_rfl) (fun _ _ _ h => h) (Or.inl ⟨by rfl, ?_⟩) (Or.inl (by assumption)) ?_
      rotate_left 1
      focus (intro W hSw; go_simp; first | done | with_reducible rfl)
      (try simp only [Act.put, List.setIfInBounds_toArray, List.set_cons_zero, List.set_cons_succ])
      refine wpAnyK_pure (i := 26) (v := ?_) (op_at _ 26 _ rfl) (by kernel_rfl) (by kernel_rfl) (by kernel_rfl) (by kernel_rfl) (fun _ _ _ h => h) (Or.inl ⟨by rfl, ?_⟩) (Or.inl (by assumption)) ?_
      rotate_left 1
      focus (intro W hSw; go_simp; first | done | with_reducible rfl)
      (try simp only [Act.put, List.setIfInBounds_toArray, List.set_cons_zero, List.set_cons_succ])
      refine wpAnyK_done (by kernel_rfl) ?_ _
      go_wp2
      go_ret
      exact ⟨rfl, HB0.out⟩

end Go.Proofs.Ytkgenmooepfhjaa
