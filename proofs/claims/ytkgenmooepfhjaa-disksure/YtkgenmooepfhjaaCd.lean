/- The law DiskSure returns true and turns nothing that was there; the walk alone. -/
import Derived.Test.YtkgenmooepfhjaaCc
namespace Go.Proofs.Ytkgenmooepfhjaa
open Go.RowKit Go.Maps

set_option maxHeartbeats 1000000 in
theorem sure_long (lo : Option Addr) (L C : Nat) (X : Nat → Av) (seed : Nat) (ko : Option Addr) (kn kc : Nat) (t : Int) (w : World) (h : ActsV w lo L X) (hk : 100 < kn) :
    Calls Try.prog 4 #[.slice lo L C, .int .u8 (seed : Int), .agg #[.slice ko kn kc, .int .i64 t]] w fun e w' => e = .returned (.bool true) ∧ Below w.heap.size w w' := by
  obtain ⟨w1, hw1⟩ : ∃ w1, w1 = w.alloc (.cells #[.slice ko kn kc, .int .i64 t] 32) := ⟨_, rfl⟩
  have hb1 : Below w.heap.size w w1 := by rw [hw1]; exact (Below.refl _ _).alloc (Nat.le_refl _) _
  have k0 : w1.cell? ⟨w.heap.size, 0, none⟩ = some (.slice ko kn kc) := by rw [hw1, World.cell?_alloc_at _ _ _ _ rfl]; rfl
  have cl := hid (light_any lo L C X w1 (h.keep hb1))
  have HB1 := hid hb1; have HW1 := hid hw1; have HK0 := hid k0
  have hk' : (100 : Int) < (kn : Int) := by omega
  clear h hb1 hw1 k0
  go_enter Try.func4, Try.ntmps4
  go_wp2_with (go_at_call 8; rw [← HW1.out]; refine cl.out.mono ?_; rintro e w2 ⟨r, rfl, _, hb2⟩; have k2 := keep_old hb2 HK0.out; replace hb2 := hid hb2; clear cl; cases r)
  all_goals
    go_wp2_with (go_at_call 9; refine (lives_any _).mono ?_; rintro e w3 ⟨rfl, hb3⟩; replace hb3 := hid hb3)
    go_ret
    exact ⟨rfl, gt (gt HB1.out hb2.out) hb3.out⟩

theorem DiskP.apart {w w' : World} {p q : Nat} {P : Parts} {d : DS} {S : Nat → Prop} (h : DiskP w p P d) (hf : DFrame w w' q S) (hpq : p ≠ q) (hps : ¬ S p) (hd : ∀ k, P.all k → k ≠ q ∧ ¬ S k) : DiskP w' p P d :=
  h.stay hf.size (fun k hk hx => by
    rcases hx with h1 | h1
    · exact hf.block k hk (hd k h1).1 (hd k h1).2
    · subst h1; exact hf.block k hk hpq hps)
theorem rd_stay {w w' : World} {ao : Option Addr} {n cap : Nat} {xs : List Nat} (h : Rd w ao n cap xs) (hb : 0 < n → ∀ a, ao = some a → a.block < w.heap.size → w'.heap[a.block]? = w.heap[a.block]?) : Rd w' ao n cap xs := by
  refine ⟨h.1, h.2.1, h.2.2.1, fun hn => ?_⟩
  obtain ⟨b, off, e, hc⟩ := h.2.2.2 hn
  exact ⟨b, off, e, fun t ht => (World.cell?_of_block (a := ⟨b, off + t, none⟩) (hb hn ⟨b, off, none⟩ e (show b < w.heap.size from lt_cell (hc 0 hn)))).trans (hc t ht)⟩
theorem rd_lt {w : World} {ao : Option Addr} {n cap : Nat} {xs : List Nat} (h : Rd w ao n cap xs) (hn : 0 < n) : ∀ a, ao = some a → a.block < w.heap.size := by
  intro a ha
  obtain ⟨b, off, e, hc⟩ := h.2.2.2 hn
  rw [ha] at e; cases e
  exact lt_cell (hc 0 hn)
theorem rdB1 (W : World) : RdB (W.alloc (.cells #[.bool true] 4)) (some ⟨W.heap.size, 0, none⟩) [true] := by
  intro _
  refine ⟨_, _, rfl, fun t ht => ?_⟩
  have : t = 0 := by simpa using ht
  subst this
  rw [World.cell?_alloc_at _ _ _ _ rfl]; rfl

/-- What the last test asks of the world, while it goes on. -/
structure SR (w : World) (p : Nat) (P : Parts) (d : DS) (r1 : Option Addr) (n1 c1 : Nat) (bx : List Nat) (r2 : Option Addr) (c2 : Nat) (r3 : Option Addr) (n3 c3 : Nat) (bz : List Nat) (W : World) : Prop where
  x : Rd W r1 n1 c1 bx
  y : Rd W r2 n1 c2 bx
  z : Rd W r3 n3 c3 bz
  hd : DiskP W p P d
  b : Below w.heap.size w W
theorem SR.keep {w : World} {p : Nat} {P : Parts} {d : DS} {r1 : Option Addr} {n1 c1 : Nat} {bx : List Nat} {r2 : Option Addr} {c2 : Nat} {r3 : Option Addr} {n3 c3 : Nat} {bz : List Nat} {W W' : World} (h : SR w p P d r1 n1 c1 bx r2 c2 r3 n3 c3 bz W) (hb : Below W.heap.size W W') : SR w p P d r1 n1 c1 bx r2 c2 r3 n3 c3 bz W' :=
  ⟨h.x.keep hb, h.y.keep hb, h.z.keep hb, h.hd.later hb, gt h.b hb⟩
theorem SR.drew {w : World} {p : Nat} {P : Parts} {d : DS} {r1 : Option Addr} {n1 c1 : Nat} {bx : List Nat} {r2 : Option Addr} {c2 : Nat} {r3 : Option Addr} {n3 c3 : Nat} {bz : List Nat} {W : World} (h : SR w p P d r1 n1 c1 bx r2 c2 r3 n3 c3 bz W) : SR w p P d r1 n1 c1 bx r2 c2 r3 n3 c3 bz W.drew :=
  ⟨h.x, h.y, h.z, h.hd.stay (Nat.le_refl _) (fun _ _ _ => rfl), Below.drew h.b⟩
theorem cvt {W : World} {ao : Option Addr} {n cap : Nat} {xs : List Nat} (h : Rd W ao n cap xs) : (convert 37 9 (.slice ao n cap)).run Try.prog W = .ok (.string (str xs)) W := conv_rd h 37 9 5 Try.underlying37 Try.underlying5 Try.underlying9

/-- What a write of a drawn region asks of the world, while it goes on. -/
def RdAct (xb : Nat) (x : Av) (W : World) : Prop := W.cell? ⟨xb, 0, none⟩ = some (.int .i64 x.k) ∧ W.cell? ⟨xb, 2, none⟩ = some (.int .i64 x.a) ∧ W.cell? ⟨xb, 3, none⟩ = some (.int .i64 x.n) ∧ W.cell? ⟨xb, 4, none⟩ = some (.int .u8 (x.s : Int))
theorem RdAct.keep {xb : Nat} {x : Av} {W W' : World} (h : RdAct xb x W) (hb : W'.heap[xb]? = W.heap[xb]?) : RdAct xb x W' := ⟨(World.cell?_of_block hb).trans h.1, (World.cell?_of_block hb).trans h.2.1, (World.cell?_of_block hb).trans h.2.2.1, (World.cell?_of_block hb).trans h.2.2.2⟩
theorem RdAct.lt {xb : Nat} {x : Av} {W : World} (h : RdAct xb x W) : xb < W.heap.size := lt_cell h.1


set_option maxHeartbeats 8000000 in
set_option maxRecDepth 20000 in
theorem sure_short (lo : Option Addr) (L C : Nat) (X : Nat → Av) (seed : Nat) (ko : Option Addr) (kc : Nat) (keep : List Bool) (t : Int) (w : World) (h : ActsV w lo L X) (hk : keep.length ≤ 100) (hrd : RdB w ko keep) (ht : I64 t) :
    Calls Try.prog 4 #[.slice lo L C, .int .u8 (seed : Int), .agg #[.slice ko keep.length kc, .int .i64 t]] w fun e w' => e = .returned (.bool true) ∧ Below w.heap.size w w' := by
  obtain ⟨kn, hkn⟩ : ∃ kn, kn = keep.length := ⟨_, rfl⟩
  rw [← hkn] at hk ⊢
  have HKN := hid hkn
  clear hkn
  obtain ⟨w1, hw1⟩ : ∃ w1, w1 = w.alloc (.cells #[.slice ko kn kc, .int .i64 t] 32) := ⟨_, rfl⟩
  have hb1 : Below w.heap.size w w1 := by rw [hw1]; exact (Below.refl _ _).alloc (Nat.le_refl _) _
  have k0 : w1.cell? ⟨w.heap.size, 0, none⟩ = some (.slice ko kn kc) := by rw [hw1, World.cell?_alloc_at _ _ _ _ rfl]; rfl
  have k1 : w1.cell? ⟨w.heap.size, 1, none⟩ = some (.int .i64 t) := by rw [hw1, World.cell?_alloc_at _ _ _ _ rfl]; rfl
  have z1 : w1.heap.size = w.heap.size + 1 := by rw [hw1]; simp
  have h1 := h.keep hb1
  have cl := hid (light_any lo L C X w1 h1)
  have H1 := hid h1; have HB1 := hid hb1; have HW1 := hid hw1; have HK0 := hid k0; have HK1 := hid k1; have Z1 := hid z1; have HRD := hid hrd; have HT := hid ht
  have hk' : ¬ ((100 : Int) < (kn : Int)) := by omega
  clear h h1 hb1 hw1 k0 k1 z1 hrd ht
  obtain ⟨s1, s2, s3, s4⟩ := sure_start seed
  have S1 := hid s1; have S2 := hid s2; have S3 := hid s3; have S4 := hid s4
  clear s1 s2 s3 s4
  go_enter Try.func4, Try.ntmps4
  go_wp2_with (go_at_call 8; rw [← HW1.out]; refine cl.out.mono ?_; rintro e w2 ⟨r, rfl, hlt, hb2⟩; have k2 := keep_old hb2 HK0.out; replace hb2 := hid hb2; replace hlt := hid hlt; clear cl; cases r)
  · go_wp2_with (go_at_call 9; refine (lives_any _).mono ?_; rintro e w3 ⟨rfl, hb3⟩; replace hb3 := hid hb3)
    go_ret
    exact ⟨rfl, gt (gt HB1.out hb2.out) hb3.out⟩
  · have c10 := hid (new_yes 200 w2 (by omega) (by omega))
    obtain ⟨p, hp⟩ : ∃ p, p = w2.heap.size := ⟨_, rfl⟩
    rw [← hp] at c10
    have HP : Hid (w1.heap.size ≤ p) := hid (by rw [hp]; exact hb2.out.size)
    have HPE := hid hp
    clear hp
    go_wp2_with (first
      | (go_at_call 10; refine c10.out.mono ?_; rintro e w3 ⟨rfl, ⟨P3, hd3, ha3⟩, hb3⟩; clear c10; have hB3 : Below w1.heap.size w1 w3 := hb2.out.trans (hb3.mono HP.out); have hA3 : ∀ k, P3.all k → w1.heap.size ≤ k := (fun k hk => Nat.le_trans HP.out (Nat.le_of_lt (ha3 k hk))); replace hd3 := hid hd3; replace hB3 := hid hB3; replace hA3 := hid hA3; clear hb3 ha3)
      | (go_at_call 17; refine (sectors_any 3 seed w3 (by omega)).mono ?_; rintro e w4 ⟨rfl, ho4, hb4⟩; replace ho4 := hid ho4; replace hb4 := hid hb4)
      | (go_at_call 16; have hd4 := hd3.out.later hb4.out; have hpl := p_lt hd3.out; have hop := HP.out; refine (write_secs p P3 (newD 200) 0 0 3 seed w3.heap.size w3.heap.size w4 hd4 (by simp [newD]) (by omega) ho4.out (fun h => by have := all_lt hd3.out h; omega) (by omega)).mono ?_; rw [S1.out]; rintro e w5 ⟨rfl, ⟨P5, hd5, hg5⟩, hf5⟩; have hB5 := below_df (hB3.out.trans (hb4.out.mono (by omega))) hf5 (by have := hb4.out.size; omega) hop hA3.out; have hA5 := hg5.base hA3.out (by have := hb4.out.size; omega); replace hd5 := hid hd5; replace hB5 := hid hB5; replace hA5 := hid hA5; clear hd3 hA3 hB3 hd4 hf5 hg5 ho4 hb4 hpl hop)
      | (go_at_call 18; have hpl := p_lt hd5.out; have hop := HP.out; refine (sync_call p P5 _ 0 w5 hd5.out (by have := S3.out; omega)).mono ?_; rw [S2.out]; rintro e w6 ⟨rfl, ⟨P6, hd6, hg6⟩, hf6⟩; have hB6 := below_df hB5.out hf6 (by omega) hop hA5.out; have hA6 := hg6.base hA5.out (by omega); replace hd6 : Hid (DiskP w6 p P6 (sureStart seed)) := hid hd6; replace hB6 := hid hB6; replace hA6 := hid hA6; clear hd5 hA5 hB5 hf6 hg6 hpl hop))
    go_loopw [44] (fun c W => ∃ (i : Nat) (P : Parts) (d : DS), i ≤ L ∧ c = .int .i64 (i : Int) ∧ Hid (DiskP W p P d) ∧ Hid (Sure (secB 3 seed) (2 + 2 * i) d) ∧ Hid (∀ k, P.all k → w1.heap.size ≤ k) ∧ Hid (Below w1.heap.size w1 W)) (fun c _ => L - (intOf c).toNat)
    case atStart => exact ⟨0, P6, sureStart seed, Nat.zero_le _, rfl, hd6, S4, hA6, hB6⟩
    case round =>
      obtain ⟨i, P, d, hi, rfl, hd, hsu, hA, hB⟩ := hrel
      by_cases hiL : i < L
      · obtain ⟨b, off, rfl, hacts⟩ := H1.out (by omega)
        have hiL' : (i : Int) < (L : Int) := by omega
        obtain ⟨c0, c1, c2, c3, c4, c5, c6, ok⟩ := (hacts.keep hB.out) i hiL
        have hbl : b < wr.heap.size := lt_cell c0
        have hbl' : ¬ b = wr.heap.size := by omega
        have OK := hid ok
        have hL100 := (hlt.out trivial).1
        clear ok hacts
        obtain ⟨W0, hW0⟩ : ∃ W0, W0 = wr.alloc (.cells #[.int .i64 (X i).k, .int .i64 (X i).f, .int .i64 (X i).a, .int .i64 (X i).n, .int .u8 ((X i).s : Int), .slice (X i).ko (X i).keep.length (X i).kc, .int .i64 (X i).t] 34) := ⟨_, rfl⟩
        have hb0 : Below wr.heap.size wr W0 := by rw [hW0]; exact (Below.refl _ _).alloc (Nat.le_refl _) _
        have HR0 : Hid (RdAct wr.heap.size (X i) W0) := hid (by rw [hW0]; refine ⟨?_, ?_, ?_, ?_⟩ <;> (rw [World.cell?_alloc_at _ _ _ _ rfl]; rfl))
        have HD0 := hid (hd.out.later hb0); have HS0 := hsu; have HA0 := hA; have HBW0 := hid (hB.out.trans (hb0.mono hB.out.size)); have HX0 : Hid (¬ P.all wr.heap.size) := hid (fun h => by have := all_lt hd.out h; omega)
        have HXP : Hid (wr.heap.size ≠ p) := hid (by have := p_lt hd.out; omega)
        have HZW : Hid (w1.heap.size ≤ wr.heap.size) := hid hB.out.size
        have HW0 := hid hW0
        clear hW0 hb0 hd hsu hA hB
        by_cases hk0 : (X i).k = 0
        · have hk0' : ((X i).k == 0) = true := by simp [hk0]
          clear hk0
          by_cases ha3 : 3 ≤ (X i).a
          · go_wp2_with fail
            rw [← HW0.out]
            have hRa : RdAct wr.heap.size (X i) W0.drew := HR0.out
            have HDD := hid (HD0.out.stay (w' := W0.drew) (Nat.le_refl _) (fun _ _ _ => rfl))
            refine wp_region_held_drew (S := RdAct wr.heap.size (X i)) (by kernel_rfl) hRa (fun hHeld => ?_)
            refine wpAnyH_take (i := 0) (v := ?_) (op_at _ 0 _ rfl) (by kernel_rfl) (by kernel_rfl) (by kernel_rfl) (fun _ _ _ h => h) (Or.inl ⟨by rfl, ?_⟩) (by assumption) ?_
            rotate_left 1
            focus (intro W hSw; obtain ⟨q0, q2, q3, q4⟩ := hSw; go_simp; first | done | with_reducible rfl)
            (try simp only [Act.put, List.setIfInBounds_toArray, List.set_cons_zero, List.set_cons_succ])
            refine wpAnyH_take (i := 1) (v := ?_) (op_at _ 1 _ rfl) (by kernel_rfl) (by kernel_rfl) (by kernel_rfl) (fun _ _ _ h => h) (Or.inl ⟨by rfl, ?_⟩) (by assumption) ?_
            rotate_left 1
            focus (intro W hSw; obtain ⟨q0, q2, q3, q4⟩ := hSw; go_simp; first | done | with_reducible rfl)
            (try simp only [Act.put, List.setIfInBounds_toArray, List.set_cons_zero, List.set_cons_succ])
            refine wpAnyH_take (i := 2) (v := ?_) (op_at _ 2 _ rfl) (by kernel_rfl) (by kernel_rfl) (by kernel_rfl) (fun _ _ _ h => h) (Or.inl ⟨by rfl, ?_⟩) (by assumption) ?_
            rotate_left 1
            focus (intro W hSw; obtain ⟨q0, q2, q3, q4⟩ := hSw; go_simp; first | done | with_reducible rfl)
            (try simp only [Act.put, List.setIfInBounds_toArray, List.set_cons_zero, List.set_cons_succ])
            refine wpAnyH_take (i := 3) (v := ?_) (op_at _ 3 _ rfl) (by kernel_rfl) (by kernel_rfl) (by kernel_rfl) (fun _ _ _ h => h) (Or.inl ⟨by rfl, ?_⟩) (by assumption) ?_
            rotate_left 1
            focus (intro W hSw; obtain ⟨q0, q2, q3, q4⟩ := hSw; go_simp; first | done | with_reducible rfl)
            (try simp only [Act.put, List.setIfInBounds_toArray, List.set_cons_zero, List.set_cons_succ])
            refine wpAnyH_take (i := 4) (v := ?_) (op_at _ 4 _ rfl) (by kernel_rfl) (by kernel_rfl) (by kernel_rfl) (fun _ _ _ h => h) (Or.inl ⟨by rfl, ?_⟩) (by assumption) ?_
            rotate_left 1
            focus (intro W hSw; obtain ⟨q0, q2, q3, q4⟩ := hSw; go_simp; first | done | with_reducible rfl)
            (try simp only [Act.put, List.setIfInBounds_toArray, List.set_cons_zero, List.set_cons_succ])
            refine wpAnyH_take (i := 5) (v := ?_) (op_at _ 5 _ rfl) (by kernel_rfl) (by kernel_rfl) (by kernel_rfl) (fun _ _ _ h => h) (Or.inl ⟨by rfl, ?_⟩) (by assumption) ?_
            rotate_left 1
            focus (intro W hSw; obtain ⟨q0, q2, q3, q4⟩ := hSw; go_simp; first | done | with_reducible rfl)
            (try simp only [Act.put, List.setIfInBounds_toArray, List.set_cons_zero, List.set_cons_succ])
            refine wpAnyH_take (i := 6) (v := ?_) (op_at _ 6 _ rfl) (by kernel_rfl) (by kernel_rfl) (by kernel_rfl) (fun _ _ _ h => h) (Or.inl ⟨by rfl, ?_⟩) (by assumption) ?_
            rotate_left 1
            focus (intro W hSw; obtain ⟨q0, q2, q3, q4⟩ := hSw; go_simp; first | done | with_reducible rfl)
            (try simp only [Act.put, List.setIfInBounds_toArray, List.set_cons_zero, List.set_cons_succ])
            refine wpAnyH_ready (rs := [7]) (by kernel_rfl) (by simp) ?_
            refine AllReadyH.cons (op_at _ 7 _ rfl) (fun K hK => ?_) AllReadyH.nil
            go_simp
            refine (sectors_any (X i).n (X i).s _ OK.out.n).mono ?_
            rintro e y0 ⟨rfl, ho1, hy1⟩
            have hRb : RdAct wr.heap.size (X i) y0 := hRa.keep (hy1.block _ hRa.lt)
            refine hK.out _ _ hRb (fun hHeld => ?_)
            clear hK K
            (try simp only [Act.put, List.setIfInBounds_toArray, List.set_cons_zero, List.set_cons_succ])
            refine wpAnyH_ready (rs := [8]) (by kernel_rfl) (by simp) ?_
            refine AllReadyH.cons (op_at _ 8 _ rfl) (fun K hK => ?_) AllReadyH.nil
            go_simp
            have hpl := p_lt HDD.out
            have hlt' := fun k (hk : (P).all k) => all_lt HDD.out hk
            have zy := hy1.size
            have hdy := HDD.out.later hy1
            refine (write_secs p P d 0 (X i).a (cntN (X i).n) (X i).s W0.drew.heap.size W0.drew.heap.size y0 hdy (by have := HS0.out.ops; omega) (cnt_le _) ho1 (fun h => Nat.lt_irrefl _ (hlt' _ h)) (Nat.ne_of_gt hpl)).mono ?_
            rintro e y0b ⟨rfl, ⟨P1, hd1, hg1⟩, hf1⟩
            have hxl : wr.heap.size < y0.heap.size := hRb.lt
            have hRc : RdAct wr.heap.size (X i) y0b := hRb.keep (hf1.block _ hxl HXP.out HX0.out)
            have HS1 := hid (HS0.out.write hdy.ok 0 (X i).a (secB (cntN (X i).n) (X i).s) (fun _ => ha3))
            have zw := HZW.out
            have HBW1 := hid (below_df (HBW0.out.trans ((undrew hy1).mono (by have := HBW0.out.size; exact this))) hf1 (by have := HBW0.out.size; have : W0.heap.size ≤ y0.heap.size := zy; omega) HP.out HA0.out)
            have HA1 := hid (hg1.base HA0.out (by have := HBW0.out.size; have : W0.heap.size ≤ y0.heap.size := zy; omega))
            have HX1 : Hid (¬ P1.all wr.heap.size) := hid (fun h => by rcases hg1 _ h with h | h; exact HX0.out h; omega)
            have HD1 := hid hd1; have HR1 := hid hRc
            refine hK.out _ _ hRc (fun hHeld => ?_)
            clear hK K hd1 hg1 hf1 hdy hlt' hpl zy hxl zw ho1 hy1 hRb hRa
            (try simp only [Act.put, List.setIfInBounds_toArray, List.set_cons_zero, List.set_cons_succ])
            refine wpAnyH_done (by kernel_rfl) ?_ _
            obtain ⟨b0, _, _, _⟩ := HR1.out
            go_wp2_with fail
            have hRa : RdAct wr.heap.size (X i) y0b.drew := HR1.out
            have HDD := hid (HD1.out.stay (w' := y0b.drew) (Nat.le_refl _) (fun _ _ _ => rfl))
            refine wp_region_held_drew (S := RdAct wr.heap.size (X i)) (by kernel_rfl) hRa (fun hHeld => ?_)
            refine wpAnyH_take (i := 0) (v := ?_) (op_at _ 0 _ rfl) (by kernel_rfl) (by kernel_rfl) (by kernel_rfl) (fun _ _ _ h => h) (Or.inl ⟨by rfl, ?_⟩) (by assumption) ?_
            rotate_left 1
            focus (intro W hSw; obtain ⟨q0, q2, q3, q4⟩ := hSw; go_simp; first | done | with_reducible rfl)
            (try simp only [Act.put, List.setIfInBounds_toArray, List.set_cons_zero, List.set_cons_succ])
            refine wpAnyH_take (i := 1) (v := ?_) (op_at _ 1 _ rfl) (by kernel_rfl) (by kernel_rfl) (by kernel_rfl) (fun _ _ _ h => h) (Or.inl ⟨by rfl, ?_⟩) (by assumption) ?_
            rotate_left 1
            focus (intro W hSw; obtain ⟨q0, q2, q3, q4⟩ := hSw; go_simp; first | done | with_reducible rfl)
            (try simp only [Act.put, List.setIfInBounds_toArray, List.set_cons_zero, List.set_cons_succ])
            refine wpAnyH_take (i := 2) (v := ?_) (op_at _ 2 _ rfl) (by kernel_rfl) (by kernel_rfl) (by kernel_rfl) (fun _ _ _ h => h) (Or.inl ⟨by rfl, ?_⟩) (by assumption) ?_
            rotate_left 1
            focus (intro W hSw; obtain ⟨q0, q2, q3, q4⟩ := hSw; go_simp; first | done | with_reducible rfl)
            (try simp only [Act.put, List.setIfInBounds_toArray, List.set_cons_zero, List.set_cons_succ])
            refine wpAnyH_take (i := 3) (v := ?_) (op_at _ 3 _ rfl) (by kernel_rfl) (by kernel_rfl) (by kernel_rfl) (fun _ _ _ h => h) (Or.inl ⟨by rfl, ?_⟩) (by assumption) ?_
            rotate_left 1
            focus (intro W hSw; obtain ⟨q0, q2, q3, q4⟩ := hSw; go_simp; first | done | with_reducible rfl)
            (try simp only [Act.put, List.setIfInBounds_toArray, List.set_cons_zero, List.set_cons_succ])
            refine wpAnyH_take (i := 4) (v := ?_) (op_at _ 4 _ rfl) (by kernel_rfl) (by kernel_rfl) (by kernel_rfl) (fun _ _ _ h => h) (Or.inl ⟨by rfl, ?_⟩) (by assumption) ?_
            rotate_left 1
            focus (intro W hSw; obtain ⟨q0, q2, q3, q4⟩ := hSw; go_simp; first | done | with_reducible rfl)
            (try simp only [Act.put, List.setIfInBounds_toArray, List.set_cons_zero, List.set_cons_succ])
            refine wpAnyH_take (i := 5) (v := ?_) (op_at _ 5 _ rfl) (by kernel_rfl) (by kernel_rfl) (by kernel_rfl) (fun _ _ _ h => h) (Or.inl ⟨by rfl, ?_⟩) (by assumption) ?_
            rotate_left 1
            focus (intro W hSw; obtain ⟨q0, q2, q3, q4⟩ := hSw; go_simp; first | done | with_reducible rfl)
            (try simp only [Act.put, List.setIfInBounds_toArray, List.set_cons_zero, List.set_cons_succ])
            refine wpAnyH_take (i := 6) (v := ?_) (op_at _ 6 _ rfl) (by kernel_rfl) (by kernel_rfl) (by kernel_rfl) (fun _ _ _ h => h) (Or.inl ⟨by rfl, ?_⟩) (by assumption) ?_
            rotate_left 1
            focus (intro W hSw; obtain ⟨q0, q2, q3, q4⟩ := hSw; go_simp; first | done | with_reducible rfl)
            (try simp only [Act.put, List.setIfInBounds_toArray, List.set_cons_zero, List.set_cons_succ])
            refine wpAnyH_ready (rs := [7]) (by kernel_rfl) (by simp) ?_
            refine AllReadyH.cons (op_at _ 7 _ rfl) (fun K hK => ?_) AllReadyH.nil
            go_simp
            refine (sectors_any (X i).n (X i).s _ OK.out.n).mono ?_
            rintro e y1 ⟨rfl, ho1, hy1⟩
            have hRb : RdAct wr.heap.size (X i) y1 := hRa.keep (hy1.block _ hRa.lt)
            refine hK.out _ _ hRb (fun hHeld => ?_)
            clear hK K
            (try simp only [Act.put, List.setIfInBounds_toArray, List.set_cons_zero, List.set_cons_succ])
            refine wpAnyH_ready (rs := [8]) (by kernel_rfl) (by simp) ?_
            refine AllReadyH.cons (op_at _ 8 _ rfl) (fun K hK => ?_) AllReadyH.nil
            go_simp
            have hpl := p_lt HDD.out
            have hlt' := fun k (hk : (P1).all k) => all_lt HDD.out hk
            have zy := hy1.size
            have hdy := HDD.out.later hy1
            refine (write_secs p P1 (writeD d 0 (X i).a (secB (cntN (X i).n) (X i).s)).2 1 (X i).a (cntN (X i).n) (X i).s y0b.drew.heap.size y0b.drew.heap.size y1 hdy (by have := HS1.out.ops; omega) (cnt_le _) ho1 (fun h => Nat.lt_irrefl _ (hlt' _ h)) (Nat.ne_of_gt hpl)).mono ?_
            rintro e y1b ⟨rfl, ⟨P2, hd2, hg2⟩, hf2⟩
            have hxl : wr.heap.size < y1.heap.size := hRb.lt
            have hRc : RdAct wr.heap.size (X i) y1b := hRb.keep (hf2.block _ hxl HXP.out HX1.out)
            have HS2 := hid (HS1.out.write hdy.ok 1 (X i).a (secB (cntN (X i).n) (X i).s) (fun h => by cases h))
            have zw := HZW.out
            have HBW2 := hid (below_df (HBW1.out.trans ((undrew hy1).mono (by have := HBW1.out.size; exact this))) hf2 (by have := HBW1.out.size; have : y0b.heap.size ≤ y1.heap.size := zy; omega) HP.out HA1.out)
            have HA2 := hid (hg2.base HA1.out (by have := HBW1.out.size; have : y0b.heap.size ≤ y1.heap.size := zy; omega))
            have HX2 : Hid (¬ P2.all wr.heap.size) := hid (fun h => by rcases hg2 _ h with h | h; exact HX1.out h; omega)
            have HD2 := hid hd2; have HR2 := hid hRc
            refine hK.out _ _ hRc (fun hHeld => ?_)
            clear hK K hd2 hg2 hf2 hdy hlt' hpl zy hxl zw ho1 hy1 hRb hRa
            (try simp only [Act.put, List.setIfInBounds_toArray, List.set_cons_zero, List.set_cons_succ])
            refine wpAnyH_done (by kernel_rfl) ?_ _
            go_wp2
            exact ⟨⟨i + 1, P2, _, by omega, by simp, HD2, hid (HS2.out.mono (by omega)), HA2, HBW2⟩, by simp [intOf]; omega⟩
          · have ha3' : ¬ ((3 : Int) ≤ (X i).a) := ha3
            go_wp2_with fail
            rw [← HW0.out]
            have hRa : RdAct wr.heap.size (X i) W0.drew := HR0.out
            have HDD := hid (HD0.out.stay (w' := W0.drew) (Nat.le_refl _) (fun _ _ _ => rfl))
            refine wp_region_held_drew (S := RdAct wr.heap.size (X i)) (by kernel_rfl) hRa (fun hHeld => ?_)
            refine wpAnyH_take (i := 0) (v := ?_) (op_at _ 0 _ rfl) (by kernel_rfl) (by kernel_rfl) (by kernel_rfl) (fun _ _ _ h => h) (Or.inl ⟨by rfl, ?_⟩) (by assumption) ?_
            rotate_left 1
            focus (intro W hSw; obtain ⟨q0, q2, q3, q4⟩ := hSw; go_simp; first | done | with_reducible rfl)
            (try simp only [Act.put, List.setIfInBounds_toArray, List.set_cons_zero, List.set_cons_succ])
            refine wpAnyH_take (i := 1) (v := ?_) (op_at _ 1 _ rfl) (by kernel_rfl) (by kernel_rfl) (by kernel_rfl) (fun _ _ _ h => h) (Or.inl ⟨by rfl, ?_⟩) (by assumption) ?_
            rotate_left 1
            focus (intro W hSw; obtain ⟨q0, q2, q3, q4⟩ := hSw; go_simp; first | done | with_reducible rfl)
            (try simp only [Act.put, List.setIfInBounds_toArray, List.set_cons_zero, List.set_cons_succ])
            refine wpAnyH_take (i := 2) (v := ?_) (op_at _ 2 _ rfl) (by kernel_rfl) (by kernel_rfl) (by kernel_rfl) (fun _ _ _ h => h) (Or.inl ⟨by rfl, ?_⟩) (by assumption) ?_
            rotate_left 1
            focus (intro W hSw; obtain ⟨q0, q2, q3, q4⟩ := hSw; go_simp; first | done | with_reducible rfl)
            (try simp only [Act.put, List.setIfInBounds_toArray, List.set_cons_zero, List.set_cons_succ])
            refine wpAnyH_take (i := 3) (v := ?_) (op_at _ 3 _ rfl) (by kernel_rfl) (by kernel_rfl) (by kernel_rfl) (fun _ _ _ h => h) (Or.inl ⟨by rfl, ?_⟩) (by assumption) ?_
            rotate_left 1
            focus (intro W hSw; obtain ⟨q0, q2, q3, q4⟩ := hSw; go_simp; first | done | with_reducible rfl)
            (try simp only [Act.put, List.setIfInBounds_toArray, List.set_cons_zero, List.set_cons_succ])
            refine wpAnyH_take (i := 4) (v := ?_) (op_at _ 4 _ rfl) (by kernel_rfl) (by kernel_rfl) (by kernel_rfl) (fun _ _ _ h => h) (Or.inl ⟨by rfl, ?_⟩) (by assumption) ?_
            rotate_left 1
            focus (intro W hSw; obtain ⟨q0, q2, q3, q4⟩ := hSw; go_simp; first | done | with_reducible rfl)
            (try simp only [Act.put, List.setIfInBounds_toArray, List.set_cons_zero, List.set_cons_succ])
            refine wpAnyH_take (i := 5) (v := ?_) (op_at _ 5 _ rfl) (by kernel_rfl) (by kernel_rfl) (by kernel_rfl) (fun _ _ _ h => h) (Or.inl ⟨by rfl, ?_⟩) (by assumption) ?_
            rotate_left 1
            focus (intro W hSw; obtain ⟨q0, q2, q3, q4⟩ := hSw; go_simp; first | done | with_reducible rfl)
            (try simp only [Act.put, List.setIfInBounds_toArray, List.set_cons_zero, List.set_cons_succ])
            refine wpAnyH_take (i := 6) (v := ?_) (op_at _ 6 _ rfl) (by kernel_rfl) (by kernel_rfl) (by kernel_rfl) (fun _ _ _ h => h) (Or.inl ⟨by rfl, ?_⟩) (by assumption) ?_
            rotate_left 1
            focus (intro W hSw; obtain ⟨q0, q2, q3, q4⟩ := hSw; go_simp; first | done | with_reducible rfl)
            (try simp only [Act.put, List.setIfInBounds_toArray, List.set_cons_zero, List.set_cons_succ])
            refine wpAnyH_ready (rs := [7]) (by kernel_rfl) (by simp) ?_
            refine AllReadyH.cons (op_at _ 7 _ rfl) (fun K hK => ?_) AllReadyH.nil
            go_simp
            refine (sectors_any (X i).n (X i).s _ OK.out.n).mono ?_
            rintro e y0 ⟨rfl, ho1, hy1⟩
            have hRb : RdAct wr.heap.size (X i) y0 := hRa.keep (hy1.block _ hRa.lt)
            refine hK.out _ _ hRb (fun hHeld => ?_)
            clear hK K
            (try simp only [Act.put, List.setIfInBounds_toArray, List.set_cons_zero, List.set_cons_succ])
            refine wpAnyH_ready (rs := [8]) (by kernel_rfl) (by simp) ?_
            refine AllReadyH.cons (op_at _ 8 _ rfl) (fun K hK => ?_) AllReadyH.nil
            go_simp
            have hpl := p_lt HDD.out
            have hlt' := fun k (hk : (P).all k) => all_lt HDD.out hk
            have zy := hy1.size
            have hdy := HDD.out.later hy1
            refine (write_secs p P d 1 (X i).a (cntN (X i).n) (X i).s W0.drew.heap.size W0.drew.heap.size y0 hdy (by have := HS0.out.ops; omega) (cnt_le _) ho1 (fun h => Nat.lt_irrefl _ (hlt' _ h)) (Nat.ne_of_gt hpl)).mono ?_
            rintro e y0b ⟨rfl, ⟨P1, hd1, hg1⟩, hf1⟩
            have hxl : wr.heap.size < y0.heap.size := hRb.lt
            have hRc : RdAct wr.heap.size (X i) y0b := hRb.keep (hf1.block _ hxl HXP.out HX0.out)
            have HS1 := hid (HS0.out.write hdy.ok 1 (X i).a (secB (cntN (X i).n) (X i).s) (fun h => by cases h))
            have zw := HZW.out
            have HBW1 := hid (below_df (HBW0.out.trans ((undrew hy1).mono (by have := HBW0.out.size; exact this))) hf1 (by have := HBW0.out.size; have : W0.heap.size ≤ y0.heap.size := zy; omega) HP.out HA0.out)
            have HA1 := hid (hg1.base HA0.out (by have := HBW0.out.size; have : W0.heap.size ≤ y0.heap.size := zy; omega))
            have HX1 : Hid (¬ P1.all wr.heap.size) := hid (fun h => by rcases hg1 _ h with h | h; exact HX0.out h; omega)
            have HD1 := hid hd1; have HR1 := hid hRc
            refine hK.out _ _ hRc (fun hHeld => ?_)
            clear hK K hd1 hg1 hf1 hdy hlt' hpl zy hxl zw ho1 hy1 hRb hRa
            (try simp only [Act.put, List.setIfInBounds_toArray, List.set_cons_zero, List.set_cons_succ])
            refine wpAnyH_done (by kernel_rfl) ?_ _
            go_wp2
            exact ⟨⟨i + 1, P1, _, by omega, by simp, HD1, hid (HS1.out.mono (by omega)), HA1, HBW1⟩, by simp [intOf]; omega⟩
        · have hk0' : ((X i).k == 0) = false := by simp [hk0]
          go_wp2
          rw [← HW0.out]
          exact ⟨⟨i + 1, P, d, by omega, by simp, HD0, hid (HS0.out.mono (by omega)), HA0, HBW0⟩, by simp [intOf]; omega⟩
      · have hiE : i = L := by omega
        subst hiE
        have hlast : ¬ ((i : Int) < (i : Int)) := by omega
        have hoff := hsu.out.off
        have c19 := sectors_call p P d 0 wr hd.out
        have elen : lenD d 0 = d.f0.now.length := rfl
        rw [elen] at c19
        have hok := hd.out.ok
        have c14 := read_call p P d 0 0 (d.f0.now.length : Int) wr hd.out (by omega) (by have := hok.sum; have := hok.r2; omega)
        rw [read_all d hoff] at c14
        simp only at c14
        obtain ⟨bx, hbx⟩ : ∃ bx, bx = d.f0.now.flatten := ⟨_, rfl⟩
        obtain ⟨LL, hLL⟩ : ∃ LL, LL = d.f0.now.length := ⟨_, rfl⟩
        rw [← hbx, ← hLL] at c14
        rw [← hLL] at c19
        obtain ⟨nx, hnx⟩ : ∃ nx, nx = bx.length := ⟨_, rfl⟩
        rw [← hnx] at c14
        have C19 := hid c19; have C14 := hid c14; have HBX := hid hbx; have HLL := hid hLL; have HNX := hid hnx; have HOFF := hid hoff; have HOK := hid hok
        clear c19 c14 hbx hLL hnx elen hok hoff
        have HZW : Hid (w1.heap.size ≤ wr.heap.size) := hid hB.out.size
        have HPW : Hid (p < wr.heap.size) := hid (p_lt hd.out)
        have HAW : Hid (∀ k, P.all k → k < wr.heap.size) := hid (fun k hk => all_lt hd.out hk)
        -- the copy: all is kept
        have hq0 : (startD (crashD d [true] 0)).off = false := rfl
        have hcr : (startD (crashD d [true] 0)).f0.now = d.f0.now := by show (crashF d.f0 ⟨[true], 0, 0⟩).now = d.f0.now; rw [crash_keeps HOK.out.ok0]; rfl
        have hrq := read_all (startD (crashD d [true] 0)) hq0
        have hlq : lenD (startD (crashD d [true] 0)) 0 = LL := by rw [HLL.out]; show (startD (crashD d [true] 0)).f0.now.length = _; rw [hcr]
        rw [hcr, ← HBX.out, ← HLL.out] at hrq
        have HRQ := hid hrq; have HLQ := hid hlq
        clear hcr hrq hlq hq0
        -- the disk itself: what was sure stays
        have hct := clip_le t
        have h3 := hsu.out.len3 HOK.out
        have hcs := crash_sure HOK.out.ok0 3 (by rw [hsu.out.old, hsu.out.len]; exact Nat.le_refl _) hsu.out.dirt ⟨keep, 0, clip t⟩ hct
        have hrz := read_three (startD (crashD d keep t)) rfl hcs.2
        rw [show (startD (crashD d keep t)).f0 = crashF d.f0 ⟨keep, 0, clip t⟩ from rfl, hcs.1, hsu.out.now] at hrz
        have HRZ := hid hrz
        clear hct h3 hcs hrz
        go_wp2_with (first
          | (go_at_call 19; refine C19.out.mono ?_; rintro e wx ⟨rfl, hwx⟩; obtain rfl := hwx.symm; clear C19)
          | (go_at_call 14; refine C14.out.mono ?_; rintro e w7 ⟨ro1, rc1, rfl, hr1, hrb1, hb7⟩; clear C14; have hd7 := hid (hd.out.later hb7); have hB7 := hid (hB.out.trans (hb7.mono hB.out.size)); have hz7 : wr.heap.size ≤ w7.heap.size := hb7.size; replace hz7 := hid hz7; have hx7 := hid (fun hn => rd_lt hr1 hn); replace hr1 := hid hr1; replace hrb1 := hid hrb1; clear hb7 hd hB)
          | (go_at_call 20; refine (copy_call p P d w7 hd7.out).mono ?_; rintro e w8 ⟨rfl, ⟨Pq, hq8, haq⟩, hb8⟩; have zq := p_lt hd7.out; have hd8 := hid (hd7.out.later hb8); have hB8 := hid (hB7.out.trans (hb8.mono hB7.out.size)); have hr8 := hid (hr1.out.keep hb8); have hz8 : Hid (w7.heap.size ≤ w8.heap.size) := hid hb8.size; replace hq8 := hid hq8; replace haq := hid haq; clear hb8 hd7 hB7 hr1 zq)
          | (go_at_call 21; have hq8' := hq8.out; have hba : Below w8.heap.size w8 (w8.alloc (.cells #[.bool true] 4)) := (Below.refl _ _).alloc (Nat.le_refl _) _; have hpq := p_lt hq8'; refine (crash_on w7.heap.size Pq d (some ⟨w8.heap.size, 0, none⟩) 1 [true] 0 _ (hq8'.later hba) HOFF.out (rdB1 w8) (by decide) (by omega) (fun _ a ha => by cases ha; exact ⟨fun h => Nat.lt_irrefl _ (hq8'.b0 _ h), fun h => Nat.lt_irrefl _ (hq8'.b1 _ h), Nat.ne_of_gt hpq⟩)).mono ?_; rintro e w10 ⟨rfl, ⟨Pq2, hq10, hgq⟩, hfq⟩; have zz7 := hz7.out; have zzp := HPW.out; have zz8 := hz8.out; have zzb := hB8.out.size; have zzw := HZW.out; have hd10 := hid ((hd8.out.later hba).apart hfq (by omega) (fun h => by have := haq.out _ h; omega) (fun k hk => ⟨by have := HAW.out k hk; omega, fun h => by have := haq.out _ h; have := HAW.out k hk; omega⟩)); have hr10 := hid (rd_stay (hr8.out.keep hba) (w' := w10) (fun hn a ha hl => hfq.block _ hl (by have := hx7.out hn a ha; omega) (fun h => by have := hx7.out hn a ha; have := haq.out _ h; omega))); have hB10 := hid (below_df (hB8.out.trans (hba.mono zzb)) hfq (by have := hba.size; omega) (by omega) (fun k hk => by have := haq.out k hk; omega)); have haq2 := hid (hgq.base (B := w7.heap.size) (fun k hk => Nat.le_of_lt (haq.out k hk)) (by have := hba.size; omega)); have hz10 : Hid (w7.heap.size ≤ w10.heap.size) := hid (by have := hba.size; have := hfq.size; omega); replace hq10 := hid hq10; clear hq8' hq8 haq hba hpq hgq hfq zz7 zzp zz8 zzb zzw hd8 hB8 hr8)
          | (go_at_call 22; refine (start_any w7.heap.size Pq2 _ w10 hq10.out).mono ?_; rintro e w11 ⟨rfl, ⟨Pq3, hq11, _⟩, hf11⟩; have zz7 := hz7.out; have zzp := HPW.out; have zz10 := hz10.out; have zzw := HZW.out; have hd11 := hid (hd10.out.apart hf11 (by omega) (fun h => h) (fun k hk => ⟨by have := HAW.out k hk; omega, fun h => h⟩)); have hr11 := hid (rd_stay hr10.out (w' := w11) (fun hn a ha hl => hf11.block _ hl (by have := hx7.out hn a ha; omega) (fun h => h))); have hB11 := hid (below_df hB10.out hf11 (by omega) (by omega) (fun k hk => hk.elim)); have hz11 : Hid (w7.heap.size ≤ w11.heap.size) := hid (by have := hf11.size; omega); replace hq11 := hid hq11; clear hq10 hf11 zz7 zzp zz10 zzw hd10 hB10 hr10)
          | (go_at_call 19; have c19 := sectors_call w7.heap.size Pq3 _ 0 w11 hq11.out; rw [HLQ.out] at c19; refine c19.mono ?_; rintro e wx ⟨rfl, hwx⟩; obtain rfl := hwx.symm; clear c19)
          | (go_at_call 14; have hlb : (LL : Int) ≤ 32768 := (by have := HLL.out; have := HOK.out.sum; have := HOK.out.r2; omega); have crd := read_call w7.heap.size Pq3 _ 0 0 (LL : Int) w11 hq11.out (by omega) (by omega); rw [HRQ.out] at crd; simp only at crd; rw [← HNX.out] at crd; refine crd.mono ?_; rintro e w12 ⟨ro2, rc2, rfl, hr2, hrb2, hb12⟩; have hd12 := hid (hd11.out.later hb12); have hr12 := hid (hr11.out.keep hb12); have hB12 := hid (hB11.out.trans (hb12.mono hB11.out.size)); have kk0 := keep_old hB12.out HK0.out; have kk1 := keep_old hB12.out HK1.out; replace hr2 := hid hr2; replace hrb2 := hid hrb2; clear crd hq11 hb12 hd11 hr11 hB11 hlb)
          | (go_at_call 21; have hbw : Below w.heap.size w w12 := HB1.out.trans (hB12.out.mono HB1.out.size); have hrdk : RdB w12 ko keep := (fun hp => by obtain ⟨b, off, e, hc⟩ := HRD.out hp; exact ⟨b, off, e, fun t ht => keep_old hbw (hc t ht)⟩); have zz1 := Z1.out; have zzp := HP.out; have zzw := HPW.out; have zz7 := hz7.out; have zz11 := hz11.out; have ccr := crash_on p P d ko kc keep t w12 hd12.out HOFF.out hrdk (by rw [← HKN.out]; omega) HT.out (fun hp a ha => by obtain ⟨b, off, e, hc⟩ := HRD.out hp; rw [ha] at e; cases e; have hbl : b < w.heap.size := lt_cell (hc 0 hp); exact ⟨fun h => by have := hA.out b (Or.inl h); omega, fun h => by have := hA.out b (Or.inr (Or.inl h)); omega, by show b ≠ p; omega⟩); rw [← HKN.out] at ccr; refine ccr.mono ?_; rintro e w13 ⟨rfl, ⟨P13, hd13, hg13⟩, hf13⟩; have hr13 := hid (rd_stay hr12.out (w' := w13) (fun hn a ha hl => hf13.block _ hl (by have := hrb1.out a ha; omega) (fun h => by have := hrb1.out a ha; have := HAW.out _ h; omega))); have hs13 := hid (rd_stay hr2.out (w' := w13) (fun hn a ha hl => hf13.block _ hl (by have := hrb2.out a ha; omega) (fun h => by have := hrb2.out a ha; have := HAW.out _ h; omega))); have hB13 := hid (below_df hB12.out hf13 hB12.out.size zzp hA.out); replace hd13 := hid hd13; clear ccr hrdk hbw hg13 hf13 zz1 zzp zzw zz7 zz11 hd12 hr12 hr2 hB12 kk0 kk1)
          | (go_at_call 22; refine (start_any p P13 _ w13 hd13.out).mono ?_; rintro e w14 ⟨rfl, ⟨P14, hd14, _⟩, hf14⟩; have zzp := HP.out; have zzw := HPW.out; have zz7 := hz7.out; have zz11 := hz11.out; have hr14 := hid (rd_stay hr13.out (w' := w14) (fun hn a ha hl => hf14.block _ hl (by have := hrb1.out a ha; omega) (fun h => h))); have hs14 := hid (rd_stay hs13.out (w' := w14) (fun hn a ha hl => hf14.block _ hl (by have := hrb2.out a ha; omega) (fun h => h))); have hB14 := hid (below_df hB13.out hf14 hB13.out.size zzp (fun k hk => hk.elim)); replace hd14 := hid hd14; clear hd13 hf14 zzp zzw zz7 zz11 hr13 hs13 hB13)
          | (go_at_call 14; have crd := read_call p P14 _ 0 0 3 w14 hd14.out (by omega) (by omega); rw [HRZ.out] at crd; simp only at crd; rw [secB_flat] at crd; refine crd.mono ?_; rintro e w15 ⟨ro3, rc3, rfl, hr3, _, hb15⟩; have hS : SR w p P14 (startD (crashD d keep t)) ro1 nx rc1 bx ro2 rc2 ro3 (3 * 128) rc3 (secB 3 seed).flatten w15 := ⟨hr14.out.keep hb15, hs14.out.keep hb15, hr3, hd14.out.later hb15, HB1.out.trans ((hB14.out.trans (hb15.mono hB14.out.size)).mono HB1.out.size)⟩; replace hS := hid hS; clear crd hb15 hd14 hr14 hs14 hB14 hr3))
        have hdz : ∀ f, dirtyD (startD (crashD d keep t)) f = 0 := fun f => by
          unfold dirtyD DS.file
          split
          · split
            · show (idx (crashF d.f0 _).dirt).length = 0; simp [crashF, sureF, idx_clean]
            · show (idx (crashF d.f1 _).dirt).length = 0; simp [crashF, sureF, idx_clean]
          · rfl
        have HDZ := hid hdz
        clear hdz
        have hSd := hS.out.drew
        have cx := cvt hSd.x; have cy := cvt hSd.y; have cz := cvt hSd.z
        generalize str bx = XS at *
        obtain ⟨ZS, hZS⟩ : ∃ ZS, ZS = str (secB 3 seed).flatten := ⟨_, rfl⟩
        rw [← hZS] at cz
        have HZS := hid hZS
        clear hZS
        refine wp_region_held_drew (S := SR w p P14 (startD (crashD d keep t)) ro1 nx rc1 bx ro2 rc2 ro3 (3 * 128) rc3 (secB 3 seed).flatten) (by kernel_rfl) hSd (fun hHeld => ?_)
        refine wpAnyH_take (i := 0) (v := ?_) (op_at _ 0 _ rfl) (by kernel_rfl) (by kernel_rfl) (by kernel_rfl) (fun _ _ _ h => h) (Or.inl ⟨by rfl, ?_⟩) (by assumption) ?_
        rotate_left 1
        focus (intro w hSw; go_simp; first | done | with_reducible rfl)
        (try simp only [Act.put, List.setIfInBounds_toArray, List.set_cons_zero, List.set_cons_succ])
        refine wpAnyH_take (i := 2) (v := ?_) (op_at _ 2 _ rfl) (by kernel_rfl) (by kernel_rfl) (by kernel_rfl) (fun _ _ _ h => h) (Or.inl ⟨by rfl, ?_⟩) (by assumption) ?_
        rotate_left 1
        focus (intro w hSw; go_simp; first | done | with_reducible rfl)
        (try simp only [Act.put, List.setIfInBounds_toArray, List.set_cons_zero, List.set_cons_succ])
        refine wpAnyH_ready (rs := [1, 3]) (by kernel_rfl) (by simp) ?_
        refine AllReadyH.cons (op_at _ 1 _ rfl) (fun K hK => ?_) ?_
        · go_simp
          refine hK.out _ _ (by with_reducible assumption) (fun hHeld => ?_)
          clear hK K
          (try simp only [Act.put, List.setIfInBounds_toArray, List.set_cons_zero, List.set_cons_succ])
          refine wpAnyH_ready (rs := [3]) (by kernel_rfl) (by simp) ?_
          refine AllReadyH.cons (op_at _ 3 _ rfl) (fun K hK => ?_) AllReadyH.nil
          go_simp
          refine hK.out _ _ (by with_reducible assumption) (fun hHeld => ?_)
          clear hK K
          (try simp only [Act.put, List.setIfInBounds_toArray, List.set_cons_zero, List.set_cons_succ])
          refine wpAnyH_take (i := 4) (v := ?_) (op_at _ 4 _ rfl) (by kernel_rfl) (by kernel_rfl) (by kernel_rfl) (fun _ _ _ h => h) (Or.inl ⟨by rfl, ?_⟩) (by assumption) ?_
          rotate_left 1
          focus (intro w hSw; go_simp; first | done | with_reducible rfl)
          (try simp only [Act.put, List.setIfInBounds_toArray, List.set_cons_zero, List.set_cons_succ])
          refine wpAnyH_take (i := 5) (v := ?_) (op_at _ 5 _ rfl) (by kernel_rfl) (by kernel_rfl) (by kernel_rfl) (fun _ _ _ h => h) (Or.inl ⟨by rfl, ?_⟩) (by assumption) ?_
          rotate_left 1
          focus (intro w hSw; go_simp; first | done | with_reducible rfl)
          (try simp only [Act.put, List.setIfInBounds_toArray, List.set_cons_zero, List.set_cons_succ])
          refine wpAnyH_take (i := 6) (v := ?_) (op_at _ 6 _ rfl) (by kernel_rfl) (by kernel_rfl) (by kernel_rfl) (fun _ _ _ h => h) (Or.inl ⟨by rfl, ?_⟩) (by assumption) ?_
          rotate_left 1
          focus (intro w hSw; go_simp; first | done | with_reducible rfl)
          (try simp only [Act.put, List.setIfInBounds_toArray, List.set_cons_zero, List.set_cons_succ])
          refine wpAnyH_take (i := 7) (v := ?_) (op_at _ 7 _ rfl) (by kernel_rfl) (by kernel_rfl) (by kernel_rfl) (fun _ _ _ h => h) (Or.inl ⟨by rfl, ?_⟩) (by assumption) ?_
          rotate_left 1
          focus (intro w hSw; go_simp; first | done | with_reducible rfl)
          (try simp only [Act.put, List.setIfInBounds_toArray, List.set_cons_zero, List.set_cons_succ])
          refine wpAnyH_take (i := 8) (v := ?_) (op_at _ 8 _ rfl) (by kernel_rfl) (by kernel_rfl) (by kernel_rfl) (fun _ _ _ h => h) (Or.inl ⟨by rfl, ?_⟩) (by assumption) ?_
          rotate_left 1
          focus (intro w hSw; go_simp; first | done | with_reducible rfl)
          (try simp only [Act.put, List.setIfInBounds_toArray, List.set_cons_zero, List.set_cons_succ])
          refine wpAnyH_take (i := 9) (v := ?_) (op_at _ 9 _ rfl) (by kernel_rfl) (by kernel_rfl) (by kernel_rfl) (fun _ _ _ h => h) (Or.inl ⟨by rfl, ?_⟩) (by assumption) ?_
          rotate_left 1
          focus (intro w hSw; go_simp; first | done | with_reducible rfl)
          (try simp only [Act.put, List.setIfInBounds_toArray, List.set_cons_zero, List.set_cons_succ])
          refine wpAnyH_take (i := 10) (v := ?_) (op_at _ 10 _ rfl) (by kernel_rfl) (by kernel_rfl) (by kernel_rfl) (fun _ _ _ h => h) (Or.inl ⟨by rfl, ?_⟩) (by assumption) ?_
          rotate_left 1
          focus (intro w hSw; go_simp; first | done | with_reducible rfl)
          (try simp only [Act.put, List.setIfInBounds_toArray, List.set_cons_zero, List.set_cons_succ])
          refine wpAnyH_take (i := 12) (v := ?_) (op_at _ 12 _ rfl) (by kernel_rfl) (by kernel_rfl) (by kernel_rfl) (fun _ _ _ h => h) (Or.inl ⟨by rfl, ?_⟩) (by assumption) ?_
          rotate_left 1
          focus (intro w hSw; go_simp; first | done | with_reducible rfl)
          (try simp only [Act.put, List.setIfInBounds_toArray, List.set_cons_zero, List.set_cons_succ])
          refine wpAnyH_ready (rs := [11, 13]) (by kernel_rfl) (by simp) ?_
          refine AllReadyH.cons (op_at _ 11 _ rfl) (fun K hK => ?_) ?_
          · go_simp
            refine hK.out _ _ (by with_reducible assumption) (fun hHeld => ?_)
            clear hK K
            (try simp only [Act.put, List.setIfInBounds_toArray, List.set_cons_zero, List.set_cons_succ])
            refine wpAnyH_ready (rs := [13]) (by kernel_rfl) (by simp) ?_
            refine AllReadyH.cons (op_at _ 13 _ rfl) (fun K hK => ?_) AllReadyH.nil
            go_simp
            refine (sectors_some 3 seed _ (by omega)).mono ?_; rintro e y17 ⟨rfl, ho17, hy17⟩; have hSe := hSd.keep hy17; have cz17 := cvt hSe.z; have cb17 : (convert 37 9 (.slice (some ⟨w15.heap.size, 0, none⟩) 384 384)).run Try.prog y17 = .ok (.string ZS) y17 := (by rw [HZS.out]; exact cvt (rd_own ho17)); rw [← HZS.out] at cz17; clear ho17 hy17
            refine hK.out _ _ (by with_reducible assumption) (fun hHeld => ?_)
            clear hK K
            (try simp only [Act.put, List.setIfInBounds_toArray, List.set_cons_zero, List.set_cons_succ])
            refine wpAnyH_ready (rs := [14]) (by kernel_rfl) (by simp) ?_
            refine AllReadyH.cons (op_at _ 14 _ rfl) (fun K hK => ?_) AllReadyH.nil
            go_simp
            refine hK.out _ _ (by with_reducible assumption) (fun hHeld => ?_)
            clear hK K
            (try simp only [Act.put, List.setIfInBounds_toArray, List.set_cons_zero, List.set_cons_succ])
            refine wpAnyH_take (i := 15) (v := ?_) (op_at _ 15 _ rfl) (by kernel_rfl) (by kernel_rfl) (by kernel_rfl) (fun _ _ _ h => h) (Or.inl ⟨by rfl, ?_⟩) (by assumption) ?_
            rotate_left 1
            focus (intro w hSw; go_simp; first | done | with_reducible rfl)
            (try simp only [Act.put, List.setIfInBounds_toArray, List.set_cons_zero, List.set_cons_succ])
            refine wpAnyH_take (i := 16) (v := ?_) (op_at _ 16 _ rfl) (by kernel_rfl) (by kernel_rfl) (by kernel_rfl) (fun _ _ _ h => h) (Or.inl ⟨by rfl, ?_⟩) (by assumption) ?_
            rotate_left 1
            focus (intro w hSw; go_simp; first | done | with_reducible rfl)
            (try simp only [Act.put, List.setIfInBounds_toArray, List.set_cons_zero, List.set_cons_succ])
            refine wpAnyH_take (i := 17) (v := ?_) (op_at _ 17 _ rfl) (by kernel_rfl) (by kernel_rfl) (by kernel_rfl) (fun _ _ _ h => h) (Or.inl ⟨by rfl, ?_⟩) (by assumption) ?_
            rotate_left 1
            focus (intro w hSw; go_simp; first | done | with_reducible rfl)
            (try simp only [Act.put, List.setIfInBounds_toArray, List.set_cons_zero, List.set_cons_succ])
            refine wpAnyH_take (i := 18) (v := ?_) (op_at _ 18 _ rfl) (by kernel_rfl) (by kernel_rfl) (by kernel_rfl) (fun _ _ _ h => h) (Or.inl ⟨by rfl, ?_⟩) (by assumption) ?_
            rotate_left 1
            focus (intro w hSw; go_simp; first | done | with_reducible rfl)
            (try simp only [Act.put, List.setIfInBounds_toArray, List.set_cons_zero, List.set_cons_succ])
            refine wpAnyH_ready (rs := [19]) (by kernel_rfl) (by simp) ?_
            refine AllReadyH.cons (op_at _ 19 _ rfl) (fun K hK => ?_) AllReadyH.nil
            go_simp
            have c23 := dirty_call p P14 _ 0 _ hSe.hd; rw [HDZ.out] at c23; refine c23.mono ?_; rintro e yy ⟨rfl, hyy⟩; obtain rfl := hyy.symm; clear c23
            refine hK.out _ _ (by with_reducible assumption) (fun hHeld => ?_)
            clear hK K
            (try simp only [Act.put, List.setIfInBounds_toArray, List.set_cons_zero, List.set_cons_succ])
            refine wpAnyH_take (i := 20) (v := ?_) (op_at _ 20 _ rfl) (by kernel_rfl) (by kernel_rfl) (by kernel_rfl) (fun _ _ _ h => h) (Or.inl ⟨by rfl, ?_⟩) (by assumption) ?_
            rotate_left 1
            focus (intro w hSw; go_simp; first | done | with_reducible rfl)
            (try simp only [Act.put, List.setIfInBounds_toArray, List.set_cons_zero, List.set_cons_succ])
            refine wpAnyH_take (i := 21) (v := ?_) (op_at _ 21 _ rfl) (by kernel_rfl) (by kernel_rfl) (by kernel_rfl) (fun _ _ _ h => h) (Or.inl ⟨by rfl, ?_⟩) (by assumption) ?_
            rotate_left 1
            focus (intro w hSw; go_simp; first | done | with_reducible rfl)
            (try simp only [Act.put, List.setIfInBounds_toArray, List.set_cons_zero, List.set_cons_succ])
            refine wpAnyH_take (i := 22) (v := ?_) (op_at _ 22 _ rfl) (by kernel_rfl) (by kernel_rfl) (by kernel_rfl) (fun _ _ _ h => h) (Or.inl ⟨by rfl, ?_⟩) (by assumption) ?_
            rotate_left 1
            focus (intro w hSw; go_simp; first | done | with_reducible rfl)
            (try simp only [Act.put, List.setIfInBounds_toArray, List.set_cons_zero, List.set_cons_succ])
            refine wpAnyH_take (i := 23) (v := ?_) (op_at _ 23 _ rfl) (by kernel_rfl) (by kernel_rfl) (by kernel_rfl) (fun _ _ _ h => h) (Or.inl ⟨by rfl, ?_⟩) (by assumption) ?_
            rotate_left 1
            focus (intro w hSw; go_simp; first | done | with_reducible rfl)
            (try simp only [Act.put, List.setIfInBounds_toArray, List.set_cons_zero, List.set_cons_succ])
            refine wpAnyH_ready (rs := [24]) (by kernel_rfl) (by simp) ?_
            refine AllReadyH.cons (op_at _ 24 _ rfl) (fun K hK => ?_) AllReadyH.nil
            go_simp
            have c23 := dirty_call p P14 _ 1 _ hSe.hd; rw [HDZ.out] at c23; refine c23.mono ?_; rintro e yy ⟨rfl, hyy⟩; obtain rfl := hyy.symm; clear c23
            refine hK.out _ _ (by with_reducible assumption) (fun hHeld => ?_)
            clear hK K
            (try simp only [Act.put, List.setIfInBounds_toArray, List.set_cons_zero, List.set_cons_succ])
            refine wpAnyH_take (i := 25) (v := ?_) (op_at _ 25 _ rfl) (by kernel_rfl) (by kernel_rfl) (by kernel_rfl) (fun _ _ _ h => h) (Or.inl ⟨by rfl, ?_⟩) (by assumption) ?_
            rotate_left 1
            focus (intro w hSw; go_simp; first | done | with_reducible rfl)
            (try simp only [Act.put, List.setIfInBounds_toArray, List.set_cons_zero, List.set_cons_succ])
            refine wpAnyH_take (i := 26) (v := ?_) (op_at _ 26 _ rfl) (by kernel_rfl) (by kernel_rfl) (by kernel_rfl) (fun _ _ _ h => h) (Or.inl ⟨by rfl, ?_⟩) (by assumption) ?_
            rotate_left 1
            focus (intro w hSw; go_simp; first | done | with_reducible rfl)
            (try simp only [Act.put, List.setIfInBounds_toArray, List.set_cons_zero, List.set_cons_succ])
            refine wpAnyH_take (i := 27) (v := ?_) (op_at _ 27 _ rfl) (by kernel_rfl) (by kernel_rfl) (by kernel_rfl) (fun _ _ _ h => h) (Or.inl ⟨by rfl, ?_⟩) (by assumption) ?_
            rotate_left 1
            focus (intro w hSw; go_simp; first | done | with_reducible rfl)
            (try simp only [Act.put, List.setIfInBounds_toArray, List.set_cons_zero, List.set_cons_succ])
            refine wpAnyH_ready (rs := [28]) (by kernel_rfl) (by simp) ?_
            refine AllReadyH.cons (op_at _ 28 _ rfl) (fun K hK => ?_) AllReadyH.nil
            go_simp
            refine (lives_any _).mono ?_; rintro e y9 ⟨rfl, hy9⟩; have hSf := hSe.keep hy9
            refine hK.out _ _ (by with_reducible assumption) (fun hHeld => ?_)
            clear hK K
            (try simp only [Act.put, List.setIfInBounds_toArray, List.set_cons_zero, List.set_cons_succ])
            refine wpAnyH_take (i := 29) (v := ?_) (op_at _ 29 _ rfl) (by kernel_rfl) (by kernel_rfl) (by kernel_rfl) (fun _ _ _ h => h) (Or.inl ⟨by rfl, ?_⟩) (by assumption) ?_
            rotate_left 1
            focus (intro w hSw; go_simp; first | done | with_reducible rfl)
            (try simp only [Act.put, List.setIfInBounds_toArray, List.set_cons_zero, List.set_cons_succ])
            refine wpAnyH_take (i := 30) (v := ?_) (op_at _ 30 _ rfl) (by kernel_rfl) (by kernel_rfl) (by kernel_rfl) (fun _ _ _ h => h) (Or.inl ⟨by rfl, ?_⟩) (by assumption) ?_
            rotate_left 1
            focus (intro w hSw; go_simp; first | done | with_reducible rfl)
            (try simp only [Act.put, List.setIfInBounds_toArray, List.set_cons_zero, List.set_cons_succ])
            refine wpAnyH_done (by kernel_rfl) ?_ _
            go_wp2
            go_ret
            exact ⟨rfl, hSf.b⟩
          refine AllReadyH.cons (op_at _ 13 _ rfl) (fun K hK => ?_) ?_
          · go_simp
            refine (sectors_some 3 seed _ (by omega)).mono ?_; rintro e y17 ⟨rfl, ho17, hy17⟩; have hSe := hSd.keep hy17; have cz17 := cvt hSe.z; have cb17 : (convert 37 9 (.slice (some ⟨w15.heap.size, 0, none⟩) 384 384)).run Try.prog y17 = .ok (.string ZS) y17 := (by rw [HZS.out]; exact cvt (rd_own ho17)); rw [← HZS.out] at cz17; clear ho17 hy17
            refine hK.out _ _ (by with_reducible assumption) (fun hHeld => ?_)
            clear hK K
            (try simp only [Act.put, List.setIfInBounds_toArray, List.set_cons_zero, List.set_cons_succ])
            refine wpAnyH_ready (rs := [11, 14]) (by kernel_rfl) (by simp) ?_
            refine AllReadyH.cons (op_at _ 11 _ rfl) (fun K hK => ?_) ?_
            · go_simp
              refine hK.out _ _ (by with_reducible assumption) (fun hHeld => ?_)
              clear hK K
              (try simp only [Act.put, List.setIfInBounds_toArray, List.set_cons_zero, List.set_cons_succ])
              refine wpAnyH_ready (rs := [14]) (by kernel_rfl) (by simp) ?_
              refine AllReadyH.cons (op_at _ 14 _ rfl) (fun K hK => ?_) AllReadyH.nil
              go_simp
              refine hK.out _ _ (by with_reducible assumption) (fun hHeld => ?_)
              clear hK K
              (try simp only [Act.put, List.setIfInBounds_toArray, List.set_cons_zero, List.set_cons_succ])
              refine wpAnyH_take (i := 15) (v := ?_) (op_at _ 15 _ rfl) (by kernel_rfl) (by kernel_rfl) (by kernel_rfl) (fun _ _ _ h => h) (Or.inl ⟨by rfl, ?_⟩) (by assumption) ?_
              rotate_left 1
              focus (intro w hSw; go_simp; first | done | with_reducible rfl)
              (try simp only [Act.put, List.setIfInBounds_toArray, List.set_cons_zero, List.set_cons_succ])
              refine wpAnyH_take (i := 16) (v := ?_) (op_at _ 16 _ rfl) (by kernel_rfl) (by kernel_rfl) (by kernel_rfl) (fun _ _ _ h => h) (Or.inl ⟨by rfl, ?_⟩) (by assumption) ?_
              rotate_left 1
              focus (intro w hSw; go_simp; first | done | with_reducible rfl)
              (try simp only [Act.put, List.setIfInBounds_toArray, List.set_cons_zero, List.set_cons_succ])
              refine wpAnyH_take (i := 17) (v := ?_) (op_at _ 17 _ rfl) (by kernel_rfl) (by kernel_rfl) (by kernel_rfl) (fun _ _ _ h => h) (Or.inl ⟨by rfl, ?_⟩) (by assumption) ?_
              rotate_left 1
              focus (intro w hSw; go_simp; first | done | with_reducible rfl)
              (try simp only [Act.put, List.setIfInBounds_toArray, List.set_cons_zero, List.set_cons_succ])
              refine wpAnyH_take (i := 18) (v := ?_) (op_at _ 18 _ rfl) (by kernel_rfl) (by kernel_rfl) (by kernel_rfl) (fun _ _ _ h => h) (Or.inl ⟨by rfl, ?_⟩) (by assumption) ?_
              rotate_left 1
              focus (intro w hSw; go_simp; first | done | with_reducible rfl)
              (try simp only [Act.put, List.setIfInBounds_toArray, List.set_cons_zero, List.set_cons_succ])
              refine wpAnyH_ready (rs := [19]) (by kernel_rfl) (by simp) ?_
              refine AllReadyH.cons (op_at _ 19 _ rfl) (fun K hK => ?_) AllReadyH.nil
              go_simp
              have c23 := dirty_call p P14 _ 0 _ hSe.hd; rw [HDZ.out] at c23; refine c23.mono ?_; rintro e yy ⟨rfl, hyy⟩; obtain rfl := hyy.symm; clear c23
              refine hK.out _ _ (by with_reducible assumption) (fun hHeld => ?_)
              clear hK K
              (try simp only [Act.put, List.setIfInBounds_toArray, List.set_cons_zero, List.set_cons_succ])
              refine wpAnyH_take (i := 20) (v := ?_) (op_at _ 20 _ rfl) (by kernel_rfl) (by kernel_rfl) (by kernel_rfl) (fun _ _ _ h => h) (Or.inl ⟨by rfl, ?_⟩) (by assumption) ?_
              rotate_left 1
              focus (intro w hSw; go_simp; first | done | with_reducible rfl)
              (try simp only [Act.put, List.setIfInBounds_toArray, List.set_cons_zero, List.set_cons_succ])
              refine wpAnyH_take (i := 21) (v := ?_) (op_at _ 21 _ rfl) (by kernel_rfl) (by kernel_rfl) (by kernel_rfl) (fun _ _ _ h => h) (Or.inl ⟨by rfl, ?_⟩) (by assumption) ?_
              rotate_left 1
              focus (intro w hSw; go_simp; first | done | with_reducible rfl)
              (try simp only [Act.put, List.setIfInBounds_toArray, List.set_cons_zero, List.set_cons_succ])
              refine wpAnyH_take (i := 22) (v := ?_) (op_at _ 22 _ rfl) (by kernel_rfl) (by kernel_rfl) (by kernel_rfl) (fun _ _ _ h => h) (Or.inl ⟨by rfl, ?_⟩) (by assumption) ?_
              rotate_left 1
              focus (intro w hSw; go_simp; first | done | with_reducible rfl)
              (try simp only [Act.put, List.setIfInBounds_toArray, List.set_cons_zero, List.set_cons_succ])
              refine wpAnyH_take (i := 23) (v := ?_) (op_at _ 23 _ rfl) (by kernel_rfl) (by kernel_rfl) (by kernel_rfl) (fun _ _ _ h => h) (Or.inl ⟨by rfl, ?_⟩) (by assumption) ?_
              rotate_left 1
              focus (intro w hSw; go_simp; first | done | with_reducible rfl)
              (try simp only [Act.put, List.setIfInBounds_toArray, List.set_cons_zero, List.set_cons_succ])
              refine wpAnyH_ready (rs := [24]) (by kernel_rfl) (by simp) ?_
              refine AllReadyH.cons (op_at _ 24 _ rfl) (fun K hK => ?_) AllReadyH.nil
              go_simp
              have c23 := dirty_call p P14 _ 1 _ hSe.hd; rw [HDZ.out] at c23; refine c23.mono ?_; rintro e yy ⟨rfl, hyy⟩; obtain rfl := hyy.symm; clear c23
              refine hK.out _ _ (by with_reducible assumption) (fun hHeld => ?_)
              clear hK K
              (try simp only [Act.put, List.setIfInBounds_toArray, List.set_cons_zero, List.set_cons_succ])
              refine wpAnyH_take (i := 25) (v := ?_) (op_at _ 25 _ rfl) (by kernel_rfl) (by kernel_rfl) (by kernel_rfl) (fun _ _ _ h => h) (Or.inl ⟨by rfl, ?_⟩) (by assumption) ?_
              rotate_left 1
              focus (intro w hSw; go_simp; first | done | with_reducible rfl)
              (try simp only [Act.put, List.setIfInBounds_toArray, List.set_cons_zero, List.set_cons_succ])
              refine wpAnyH_take (i := 26) (v := ?_) (op_at _ 26 _ rfl) (by kernel_rfl) (by kernel_rfl) (by kernel_rfl) (fun _ _ _ h => h) (Or.inl ⟨by rfl, ?_⟩) (by assumption) ?_
              rotate_left 1
              focus (intro w hSw; go_simp; first | done | with_reducible rfl)
              (try simp only [Act.put, List.setIfInBounds_toArray, List.set_cons_zero, List.set_cons_succ])
              refine wpAnyH_take (i := 27) (v := ?_) (op_at _ 27 _ rfl) (by kernel_rfl) (by kernel_rfl) (by kernel_rfl) (fun _ _ _ h => h) (Or.inl ⟨by rfl, ?_⟩) (by assumption) ?_
              rotate_left 1
              focus (intro w hSw; go_simp; first | done | with_reducible rfl)
              (try simp only [Act.put, List.setIfInBounds_toArray, List.set_cons_zero, List.set_cons_succ])
              refine wpAnyH_ready (rs := [28]) (by kernel_rfl) (by simp) ?_
              refine AllReadyH.cons (op_at _ 28 _ rfl) (fun K hK => ?_) AllReadyH.nil
              go_simp
              refine (lives_any _).mono ?_; rintro e y9 ⟨rfl, hy9⟩; have hSf := hSe.keep hy9
              refine hK.out _ _ (by with_reducible assumption) (fun hHeld => ?_)
              clear hK K
              (try simp only [Act.put, List.setIfInBounds_toArray, List.set_cons_zero, List.set_cons_succ])
              refine wpAnyH_take (i := 29) (v := ?_) (op_at _ 29 _ rfl) (by kernel_rfl) (by kernel_rfl) (by kernel_rfl) (fun _ _ _ h => h) (Or.inl ⟨by rfl, ?_⟩) (by assumption) ?_
              rotate_left 1
              focus (intro w hSw; go_simp; first | done | with_reducible rfl)
              (try simp only [Act.put, List.setIfInBounds_toArray, List.set_cons_zero, List.set_cons_succ])
              refine wpAnyH_take (i := 30) (v := ?_) (op_at _ 30 _ rfl) (by kernel_rfl) (by kernel_rfl) (by kernel_rfl) (fun _ _ _ h => h) (Or.inl ⟨by rfl, ?_⟩) (by assumption) ?_
              rotate_left 1
              focus (intro w hSw; go_simp; first | done | with_reducible rfl)
              (try simp only [Act.put, List.setIfInBounds_toArray, List.set_cons_zero, List.set_cons_succ])
              refine wpAnyH_done (by kernel_rfl) ?_ _
              go_wp2
              go_ret
              exact ⟨rfl, hSf.b⟩
            refine AllReadyH.cons (op_at _ 14 _ rfl) (fun K hK => ?_) ?_
            · go_simp
              refine hK.out _ _ (by with_reducible assumption) (fun hHeld => ?_)
              clear hK K
              (try simp only [Act.put, List.setIfInBounds_toArray, List.set_cons_zero, List.set_cons_succ])
              refine wpAnyH_ready (rs := [11]) (by kernel_rfl) (by simp) ?_
              refine AllReadyH.cons (op_at _ 11 _ rfl) (fun K hK => ?_) AllReadyH.nil
              go_simp
              refine hK.out _ _ (by with_reducible assumption) (fun hHeld => ?_)
              clear hK K
              (try simp only [Act.put, List.setIfInBounds_toArray, List.set_cons_zero, List.set_cons_succ])
              refine wpAnyH_take (i := 15) (v := ?_) (op_at _ 15 _ rfl) (by kernel_rfl) (by kernel_rfl) (by kernel_rfl) (fun _ _ _ h => h) (Or.inl ⟨by rfl, ?_⟩) (by assumption) ?_
              rotate_left 1
              focus (intro w hSw; go_simp; first | done | with_reducible rfl)
              (try simp only [Act.put, List.setIfInBounds_toArray, List.set_cons_zero, List.set_cons_succ])
              refine wpAnyH_take (i := 16) (v := ?_) (op_at _ 16 _ rfl) (by kernel_rfl) (by kernel_rfl) (by kernel_rfl) (fun _ _ _ h => h) (Or.inl ⟨by rfl, ?_⟩) (by assumption) ?_
              rotate_left 1
              focus (intro w hSw; go_simp; first | done | with_reducible rfl)
              (try simp only [Act.put, List.setIfInBounds_toArray, List.set_cons_zero, List.set_cons_succ])
              refine wpAnyH_take (i := 17) (v := ?_) (op_at _ 17 _ rfl) (by kernel_rfl) (by kernel_rfl) (by kernel_rfl) (fun _ _ _ h => h) (Or.inl ⟨by rfl, ?_⟩) (by assumption) ?_
              rotate_left 1
              focus (intro w hSw; go_simp; first | done | with_reducible rfl)
              (try simp only [Act.put, List.setIfInBounds_toArray, List.set_cons_zero, List.set_cons_succ])
              refine wpAnyH_take (i := 18) (v := ?_) (op_at _ 18 _ rfl) (by kernel_rfl) (by kernel_rfl) (by kernel_rfl) (fun _ _ _ h => h) (Or.inl ⟨by rfl, ?_⟩) (by assumption) ?_
              rotate_left 1
              focus (intro w hSw; go_simp; first | done | with_reducible rfl)
              (try simp only [Act.put, List.setIfInBounds_toArray, List.set_cons_zero, List.set_cons_succ])
              refine wpAnyH_ready (rs := [19]) (by kernel_rfl) (by simp) ?_
              refine AllReadyH.cons (op_at _ 19 _ rfl) (fun K hK => ?_) AllReadyH.nil
              go_simp
              have c23 := dirty_call p P14 _ 0 _ hSe.hd; rw [HDZ.out] at c23; refine c23.mono ?_; rintro e yy ⟨rfl, hyy⟩; obtain rfl := hyy.symm; clear c23
              refine hK.out _ _ (by with_reducible assumption) (fun hHeld => ?_)
              clear hK K
              (try simp only [Act.put, List.setIfInBounds_toArray, List.set_cons_zero, List.set_cons_succ])
              refine wpAnyH_take (i := 20) (v := ?_) (op_at _ 20 _ rfl) (by kernel_rfl) (by kernel_rfl) (by kernel_rfl) (fun _ _ _ h => h) (Or.inl ⟨by rfl, ?_⟩) (by assumption) ?_
              rotate_left 1
              focus (intro w hSw; go_simp; first | done | with_reducible rfl)
              (try simp only [Act.put, List.setIfInBounds_toArray, List.set_cons_zero, List.set_cons_succ])
              refine wpAnyH_take (i := 21) (v := ?_) (op_at _ 21 _ rfl) (by kernel_rfl) (by kernel_rfl) (by kernel_rfl) (fun _ _ _ h => h) (Or.inl ⟨by rfl, ?_⟩) (by assumption) ?_
              rotate_left 1
              focus (intro w hSw; go_simp; first | done | with_reducible rfl)
              (try simp only [Act.put, List.setIfInBounds_toArray, List.set_cons_zero, List.set_cons_succ])
              refine wpAnyH_take (i := 22) (v := ?_) (op_at _ 22 _ rfl) (by kernel_rfl) (by kernel_rfl) (by kernel_rfl) (fun _ _ _ h => h) (Or.inl ⟨by rfl, ?_⟩) (by assumption) ?_
              rotate_left 1
              focus (intro w hSw; go_simp; first | done | with_reducible rfl)
              (try simp only [Act.put, List.setIfInBounds_toArray, List.set_cons_zero, List.set_cons_succ])
              refine wpAnyH_take (i := 23) (v := ?_) (op_at _ 23 _ rfl) (by kernel_rfl) (by kernel_rfl) (by kernel_rfl) (fun _ _ _ h => h) (Or.inl ⟨by rfl, ?_⟩) (by assumption) ?_
              rotate_left 1
              focus (intro w hSw; go_simp; first | done | with_reducible rfl)
              (try simp only [Act.put, List.setIfInBounds_toArray, List.set_cons_zero, List.set_cons_succ])
              refine wpAnyH_ready (rs := [24]) (by kernel_rfl) (by simp) ?_
              refine AllReadyH.cons (op_at _ 24 _ rfl) (fun K hK => ?_) AllReadyH.nil
              go_simp
              have c23 := dirty_call p P14 _ 1 _ hSe.hd; rw [HDZ.out] at c23; refine c23.mono ?_; rintro e yy ⟨rfl, hyy⟩; obtain rfl := hyy.symm; clear c23
              refine hK.out _ _ (by with_reducible assumption) (fun hHeld => ?_)
              clear hK K
              (try simp only [Act.put, List.setIfInBounds_toArray, List.set_cons_zero, List.set_cons_succ])
              refine wpAnyH_take (i := 25) (v := ?_) (op_at _ 25 _ rfl) (by kernel_rfl) (by kernel_rfl) (by kernel_rfl) (fun _ _ _ h => h) (Or.inl ⟨by rfl, ?_⟩) (by assumption) ?_
              rotate_left 1
              focus (intro w hSw; go_simp; first | done | with_reducible rfl)
              (try simp only [Act.put, List.setIfInBounds_toArray, List.set_cons_zero, List.set_cons_succ])
              refine wpAnyH_take (i := 26) (v := ?_) (op_at _ 26 _ rfl) (by kernel_rfl) (by kernel_rfl) (by kernel_rfl) (fun _ _ _ h => h) (Or.inl ⟨by rfl, ?_⟩) (by assumption) ?_
              rotate_left 1
              focus (intro w hSw; go_simp; first | done | with_reducible rfl)
              (try simp only [Act.put, List.setIfInBounds_toArray, List.set_cons_zero, List.set_cons_succ])
              refine wpAnyH_take (i := 27) (v := ?_) (op_at _ 27 _ rfl) (by kernel_rfl) (by kernel_rfl) (by kernel_rfl) (fun _ _ _ h => h) (Or.inl ⟨by rfl, ?_⟩) (by assumption) ?_
              rotate_left 1
              focus (intro w hSw; go_simp; first | done | with_reducible rfl)
              (try simp only [Act.put, List.setIfInBounds_toArray, List.set_cons_zero, List.set_cons_succ])
              refine wpAnyH_ready (rs := [28]) (by kernel_rfl) (by simp) ?_
              refine AllReadyH.cons (op_at _ 28 _ rfl) (fun K hK => ?_) AllReadyH.nil
              go_simp
              refine (lives_any _).mono ?_; rintro e y9 ⟨rfl, hy9⟩; have hSf := hSe.keep hy9
              refine hK.out _ _ (by with_reducible assumption) (fun hHeld => ?_)
              clear hK K
              (try simp only [Act.put, List.setIfInBounds_toArray, List.set_cons_zero, List.set_cons_succ])
              refine wpAnyH_take (i := 29) (v := ?_) (op_at _ 29 _ rfl) (by kernel_rfl) (by kernel_rfl) (by kernel_rfl) (fun _ _ _ h => h) (Or.inl ⟨by rfl, ?_⟩) (by assumption) ?_
              rotate_left 1
              focus (intro w hSw; go_simp; first | done | with_reducible rfl)
              (try simp only [Act.put, List.setIfInBounds_toArray, List.set_cons_zero, List.set_cons_succ])
              refine wpAnyH_take (i := 30) (v := ?_) (op_at _ 30 _ rfl) (by kernel_rfl) (by kernel_rfl) (by kernel_rfl) (fun _ _ _ h => h) (Or.inl ⟨by rfl, ?_⟩) (by assumption) ?_
              rotate_left 1
              focus (intro w hSw; go_simp; first | done | with_reducible rfl)
              (try simp only [Act.put, List.setIfInBounds_toArray, List.set_cons_zero, List.set_cons_succ])
              refine wpAnyH_done (by kernel_rfl) ?_ _
              go_wp2
              go_ret
              exact ⟨rfl, hSf.b⟩
            exact AllReadyH.nil
          exact AllReadyH.nil
        refine AllReadyH.cons (op_at _ 3 _ rfl) (fun K hK => ?_) ?_
        · go_simp
          refine hK.out _ _ (by with_reducible assumption) (fun hHeld => ?_)
          clear hK K
          (try simp only [Act.put, List.setIfInBounds_toArray, List.set_cons_zero, List.set_cons_succ])
          refine wpAnyH_ready (rs := [1]) (by kernel_rfl) (by simp) ?_
          refine AllReadyH.cons (op_at _ 1 _ rfl) (fun K hK => ?_) AllReadyH.nil
          go_simp
          refine hK.out _ _ (by with_reducible assumption) (fun hHeld => ?_)
          clear hK K
          (try simp only [Act.put, List.setIfInBounds_toArray, List.set_cons_zero, List.set_cons_succ])
          refine wpAnyH_take (i := 4) (v := ?_) (op_at _ 4 _ rfl) (by kernel_rfl) (by kernel_rfl) (by kernel_rfl) (fun _ _ _ h => h) (Or.inl ⟨by rfl, ?_⟩) (by assumption) ?_
          rotate_left 1
          focus (intro w hSw; go_simp; first | done | with_reducible rfl)
          (try simp only [Act.put, List.setIfInBounds_toArray, List.set_cons_zero, List.set_cons_succ])
          refine wpAnyH_take (i := 5) (v := ?_) (op_at _ 5 _ rfl) (by kernel_rfl) (by kernel_rfl) (by kernel_rfl) (fun _ _ _ h => h) (Or.inl ⟨by rfl, ?_⟩) (by assumption) ?_
          rotate_left 1
          focus (intro w hSw; go_simp; first | done | with_reducible rfl)
          (try simp only [Act.put, List.setIfInBounds_toArray, List.set_cons_zero, List.set_cons_succ])
          refine wpAnyH_take (i := 6) (v := ?_) (op_at _ 6 _ rfl) (by kernel_rfl) (by kernel_rfl) (by kernel_rfl) (fun _ _ _ h => h) (Or.inl ⟨by rfl, ?_⟩) (by assumption) ?_
          rotate_left 1
          focus (intro w hSw; go_simp; first | done | with_reducible rfl)
          (try simp only [Act.put, List.setIfInBounds_toArray, List.set_cons_zero, List.set_cons_succ])
          refine wpAnyH_take (i := 7) (v := ?_) (op_at _ 7 _ rfl) (by kernel_rfl) (by kernel_rfl) (by kernel_rfl) (fun _ _ _ h => h) (Or.inl ⟨by rfl, ?_⟩) (by assumption) ?_
          rotate_left 1
          focus (intro w hSw; go_simp; first | done | with_reducible rfl)
          (try simp only [Act.put, List.setIfInBounds_toArray, List.set_cons_zero, List.set_cons_succ])
          refine wpAnyH_take (i := 8) (v := ?_) (op_at _ 8 _ rfl) (by kernel_rfl) (by kernel_rfl) (by kernel_rfl) (fun _ _ _ h => h) (Or.inl ⟨by rfl, ?_⟩) (by assumption) ?_
          rotate_left 1
          focus (intro w hSw; go_simp; first | done | with_reducible rfl)
          (try simp only [Act.put, List.setIfInBounds_toArray, List.set_cons_zero, List.set_cons_succ])
          refine wpAnyH_take (i := 9) (v := ?_) (op_at _ 9 _ rfl) (by kernel_rfl) (by kernel_rfl) (by kernel_rfl) (fun _ _ _ h => h) (Or.inl ⟨by rfl, ?_⟩) (by assumption) ?_
          rotate_left 1
          focus (intro w hSw; go_simp; first | done | with_reducible rfl)
          (try simp only [Act.put, List.setIfInBounds_toArray, List.set_cons_zero, List.set_cons_succ])
          refine wpAnyH_take (i := 10) (v := ?_) (op_at _ 10 _ rfl) (by kernel_rfl) (by kernel_rfl) (by kernel_rfl) (fun _ _ _ h => h) (Or.inl ⟨by rfl, ?_⟩) (by assumption) ?_
          rotate_left 1
          focus (intro w hSw; go_simp; first | done | with_reducible rfl)
          (try simp only [Act.put, List.setIfInBounds_toArray, List.set_cons_zero, List.set_cons_succ])
          refine wpAnyH_take (i := 12) (v := ?_) (op_at _ 12 _ rfl) (by kernel_rfl) (by kernel_rfl) (by kernel_rfl) (fun _ _ _ h => h) (Or.inl ⟨by rfl, ?_⟩) (by assumption) ?_
          rotate_left 1
          focus (intro w hSw; go_simp; first | done | with_reducible rfl)
          (try simp only [Act.put, List.setIfInBounds_toArray, List.set_cons_zero, List.set_cons_succ])
          refine wpAnyH_ready (rs := [11, 13]) (by kernel_rfl) (by simp) ?_
          refine AllReadyH.cons (op_at _ 11 _ rfl) (fun K hK => ?_) ?_
          · go_simp
            refine hK.out _ _ (by with_reducible assumption) (fun hHeld => ?_)
            clear hK K
            (try simp only [Act.put, List.setIfInBounds_toArray, List.set_cons_zero, List.set_cons_succ])
            refine wpAnyH_ready (rs := [13]) (by kernel_rfl) (by simp) ?_
            refine AllReadyH.cons (op_at _ 13 _ rfl) (fun K hK => ?_) AllReadyH.nil
            go_simp
            refine (sectors_some 3 seed _ (by omega)).mono ?_; rintro e y17 ⟨rfl, ho17, hy17⟩; have hSe := hSd.keep hy17; have cz17 := cvt hSe.z; have cb17 : (convert 37 9 (.slice (some ⟨w15.heap.size, 0, none⟩) 384 384)).run Try.prog y17 = .ok (.string ZS) y17 := (by rw [HZS.out]; exact cvt (rd_own ho17)); rw [← HZS.out] at cz17; clear ho17 hy17
            refine hK.out _ _ (by with_reducible assumption) (fun hHeld => ?_)
            clear hK K
            (try simp only [Act.put, List.setIfInBounds_toArray, List.set_cons_zero, List.set_cons_succ])
            refine wpAnyH_ready (rs := [14]) (by kernel_rfl) (by simp) ?_
            refine AllReadyH.cons (op_at _ 14 _ rfl) (fun K hK => ?_) AllReadyH.nil
            go_simp
            refine hK.out _ _ (by with_reducible assumption) (fun hHeld => ?_)
            clear hK K
            (try simp only [Act.put, List.setIfInBounds_toArray, List.set_cons_zero, List.set_cons_succ])
            refine wpAnyH_take (i := 15) (v := ?_) (op_at _ 15 _ rfl) (by kernel_rfl) (by kernel_rfl) (by kernel_rfl) (fun _ _ _ h => h) (Or.inl ⟨by rfl, ?_⟩) (by assumption) ?_
            rotate_left 1
            focus (intro w hSw; go_simp; first | done | with_reducible rfl)
            (try simp only [Act.put, List.setIfInBounds_toArray, List.set_cons_zero, List.set_cons_succ])
            refine wpAnyH_take (i := 16) (v := ?_) (op_at _ 16 _ rfl) (by kernel_rfl) (by kernel_rfl) (by kernel_rfl) (fun _ _ _ h => h) (Or.inl ⟨by rfl, ?_⟩) (by assumption) ?_
            rotate_left 1
            focus (intro w hSw; go_simp; first | done | with_reducible rfl)
            (try simp only [Act.put, List.setIfInBounds_toArray, List.set_cons_zero, List.set_cons_succ])
            refine wpAnyH_take (i := 17) (v := ?_) (op_at _ 17 _ rfl) (by kernel_rfl) (by kernel_rfl) (by kernel_rfl) (fun _ _ _ h => h) (Or.inl ⟨by rfl, ?_⟩) (by assumption) ?_
            rotate_left 1
            focus (intro w hSw; go_simp; first | done | with_reducible rfl)
            (try simp only [Act.put, List.setIfInBounds_toArray, List.set_cons_zero, List.set_cons_succ])
            refine wpAnyH_take (i := 18) (v := ?_) (op_at _ 18 _ rfl) (by kernel_rfl) (by kernel_rfl) (by kernel_rfl) (fun _ _ _ h => h) (Or.inl ⟨by rfl, ?_⟩) (by assumption) ?_
            rotate_left 1
            focus (intro w hSw; go_simp; first | done | with_reducible rfl)
            (try simp only [Act.put, List.setIfInBounds_toArray, List.set_cons_zero, List.set_cons_succ])
            refine wpAnyH_ready (rs := [19]) (by kernel_rfl) (by simp) ?_
            refine AllReadyH.cons (op_at _ 19 _ rfl) (fun K hK => ?_) AllReadyH.nil
            go_simp
            have c23 := dirty_call p P14 _ 0 _ hSe.hd; rw [HDZ.out] at c23; refine c23.mono ?_; rintro e yy ⟨rfl, hyy⟩; obtain rfl := hyy.symm; clear c23
            refine hK.out _ _ (by with_reducible assumption) (fun hHeld => ?_)
            clear hK K
            (try simp only [Act.put, List.setIfInBounds_toArray, List.set_cons_zero, List.set_cons_succ])
            refine wpAnyH_take (i := 20) (v := ?_) (op_at _ 20 _ rfl) (by kernel_rfl) (by kernel_rfl) (by kernel_rfl) (fun _ _ _ h => h) (Or.inl ⟨by rfl, ?_⟩) (by assumption) ?_
            rotate_left 1
            focus (intro w hSw; go_simp; first | done | with_reducible rfl)
            (try simp only [Act.put, List.setIfInBounds_toArray, List.set_cons_zero, List.set_cons_succ])
            refine wpAnyH_take (i := 21) (v := ?_) (op_at _ 21 _ rfl) (by kernel_rfl) (by kernel_rfl) (by kernel_rfl) (fun _ _ _ h => h) (Or.inl ⟨by rfl, ?_⟩) (by assumption) ?_
            rotate_left 1
            focus (intro w hSw; go_simp; first | done | with_reducible rfl)
            (try simp only [Act.put, List.setIfInBounds_toArray, List.set_cons_zero, List.set_cons_succ])
            refine wpAnyH_take (i := 22) (v := ?_) (op_at _ 22 _ rfl) (by kernel_rfl) (by kernel_rfl) (by kernel_rfl) (fun _ _ _ h => h) (Or.inl ⟨by rfl, ?_⟩) (by assumption) ?_
            rotate_left 1
            focus (intro w hSw; go_simp; first | done | with_reducible rfl)
            (try simp only [Act.put, List.setIfInBounds_toArray, List.set_cons_zero, List.set_cons_succ])
            refine wpAnyH_take (i := 23) (v := ?_) (op_at _ 23 _ rfl) (by kernel_rfl) (by kernel_rfl) (by kernel_rfl) (fun _ _ _ h => h) (Or.inl ⟨by rfl, ?_⟩) (by assumption) ?_
            rotate_left 1
            focus (intro w hSw; go_simp; first | done | with_reducible rfl)
            (try simp only [Act.put, List.setIfInBounds_toArray, List.set_cons_zero, List.set_cons_succ])
            refine wpAnyH_ready (rs := [24]) (by kernel_rfl) (by simp) ?_
            refine AllReadyH.cons (op_at _ 24 _ rfl) (fun K hK => ?_) AllReadyH.nil
            go_simp
            have c23 := dirty_call p P14 _ 1 _ hSe.hd; rw [HDZ.out] at c23; refine c23.mono ?_; rintro e yy ⟨rfl, hyy⟩; obtain rfl := hyy.symm; clear c23
            refine hK.out _ _ (by with_reducible assumption) (fun hHeld => ?_)
            clear hK K
            (try simp only [Act.put, List.setIfInBounds_toArray, List.set_cons_zero, List.set_cons_succ])
            refine wpAnyH_take (i := 25) (v := ?_) (op_at _ 25 _ rfl) (by kernel_rfl) (by kernel_rfl) (by kernel_rfl) (fun _ _ _ h => h) (Or.inl ⟨by rfl, ?_⟩) (by assumption) ?_
            rotate_left 1
            focus (intro w hSw; go_simp; first | done | with_reducible rfl)
            (try simp only [Act.put, List.setIfInBounds_toArray, List.set_cons_zero, List.set_cons_succ])
            refine wpAnyH_take (i := 26) (v := ?_) (op_at _ 26 _ rfl) (by kernel_rfl) (by kernel_rfl) (by kernel_rfl) (fun _ _ _ h => h) (Or.inl ⟨by rfl, ?_⟩) (by assumption) ?_
            rotate_left 1
            focus (intro w hSw; go_simp; first | done | with_reducible rfl)
            (try simp only [Act.put, List.setIfInBounds_toArray, List.set_cons_zero, List.set_cons_succ])
            refine wpAnyH_take (i := 27) (v := ?_) (op_at _ 27 _ rfl) (by kernel_rfl) (by kernel_rfl) (by kernel_rfl) (fun _ _ _ h => h) (Or.inl ⟨by rfl, ?_⟩) (by assumption) ?_
            rotate_left 1
            focus (intro w hSw; go_simp; first | done | with_reducible rfl)
            (try simp only [Act.put, List.setIfInBounds_toArray, List.set_cons_zero, List.set_cons_succ])
            refine wpAnyH_ready (rs := [28]) (by kernel_rfl) (by simp) ?_
            refine AllReadyH.cons (op_at _ 28 _ rfl) (fun K hK => ?_) AllReadyH.nil
            go_simp
            refine (lives_any _).mono ?_; rintro e y9 ⟨rfl, hy9⟩; have hSf := hSe.keep hy9
            refine hK.out _ _ (by with_reducible assumption) (fun hHeld => ?_)
            clear hK K
            (try simp only [Act.put, List.setIfInBounds_toArray, List.set_cons_zero, List.set_cons_succ])
            refine wpAnyH_take (i := 29) (v := ?_) (op_at _ 29 _ rfl) (by kernel_rfl) (by kernel_rfl) (by kernel_rfl) (fun _ _ _ h => h) (Or.inl ⟨by rfl, ?_⟩) (by assumption) ?_
            rotate_left 1
            focus (intro w hSw; go_simp; first | done | with_reducible rfl)
            (try simp only [Act.put, List.setIfInBounds_toArray, List.set_cons_zero, List.set_cons_succ])
            refine wpAnyH_take (i := 30) (v := ?_) (op_at _ 30 _ rfl) (by kernel_rfl) (by kernel_rfl) (by kernel_rfl) (fun _ _ _ h => h) (Or.inl ⟨by rfl, ?_⟩) (by assumption) ?_
            rotate_left 1
            focus (intro w hSw; go_simp; first | done | with_reducible rfl)
            (try simp only [Act.put, List.setIfInBounds_toArray, List.set_cons_zero, List.set_cons_succ])
            refine wpAnyH_done (by kernel_rfl) ?_ _
            go_wp2
            go_ret
            exact ⟨rfl, hSf.b⟩
          refine AllReadyH.cons (op_at _ 13 _ rfl) (fun K hK => ?_) ?_
          · go_simp
            refine (sectors_some 3 seed _ (by omega)).mono ?_; rintro e y17 ⟨rfl, ho17, hy17⟩; have hSe := hSd.keep hy17; have cz17 := cvt hSe.z; have cb17 : (convert 37 9 (.slice (some ⟨w15.heap.size, 0, none⟩) 384 384)).run Try.prog y17 = .ok (.string ZS) y17 := (by rw [HZS.out]; exact cvt (rd_own ho17)); rw [← HZS.out] at cz17; clear ho17 hy17
            refine hK.out _ _ (by with_reducible assumption) (fun hHeld => ?_)
            clear hK K
            (try simp only [Act.put, List.setIfInBounds_toArray, List.set_cons_zero, List.set_cons_succ])
            refine wpAnyH_ready (rs := [11, 14]) (by kernel_rfl) (by simp) ?_
            refine AllReadyH.cons (op_at _ 11 _ rfl) (fun K hK => ?_) ?_
            · go_simp
              refine hK.out _ _ (by with_reducible assumption) (fun hHeld => ?_)
              clear hK K
              (try simp only [Act.put, List.setIfInBounds_toArray, List.set_cons_zero, List.set_cons_succ])
              refine wpAnyH_ready (rs := [14]) (by kernel_rfl) (by simp) ?_
              refine AllReadyH.cons (op_at _ 14 _ rfl) (fun K hK => ?_) AllReadyH.nil
              go_simp
              refine hK.out _ _ (by with_reducible assumption) (fun hHeld => ?_)
              clear hK K
              (try simp only [Act.put, List.setIfInBounds_toArray, List.set_cons_zero, List.set_cons_succ])
              refine wpAnyH_take (i := 15) (v := ?_) (op_at _ 15 _ rfl) (by kernel_rfl) (by kernel_rfl) (by kernel_rfl) (fun _ _ _ h => h) (Or.inl ⟨by rfl, ?_⟩) (by assumption) ?_
              rotate_left 1
              focus (intro w hSw; go_simp; first | done | with_reducible rfl)
              (try simp only [Act.put, List.setIfInBounds_toArray, List.set_cons_zero, List.set_cons_succ])
              refine wpAnyH_take (i := 16) (v := ?_) (op_at _ 16 _ rfl) (by kernel_rfl) (by kernel_rfl) (by kernel_rfl) (fun _ _ _ h => h) (Or.inl ⟨by rfl, ?_⟩) (by assumption) ?_
              rotate_left 1
              focus (intro w hSw; go_simp; first | done | with_reducible rfl)
              (try simp only [Act.put, List.setIfInBounds_toArray, List.set_cons_zero, List.set_cons_succ])
              refine wpAnyH_take (i := 17) (v := ?_) (op_at _ 17 _ rfl) (by kernel_rfl) (by kernel_rfl) (by kernel_rfl) (fun _ _ _ h => h) (Or.inl ⟨by rfl, ?_⟩) (by assumption) ?_
              rotate_left 1
              focus (intro w hSw; go_simp; first | done | with_reducible rfl)
              (try simp only [Act.put, List.setIfInBounds_toArray, List.set_cons_zero, List.set_cons_succ])
              refine wpAnyH_take (i := 18) (v := ?_) (op_at _ 18 _ rfl) (by kernel_rfl) (by kernel_rfl) (by kernel_rfl) (fun _ _ _ h => h) (Or.inl ⟨by rfl, ?_⟩) (by assumption) ?_
              rotate_left 1
              focus (intro w hSw; go_simp; first | done | with_reducible rfl)
              (try simp only [Act.put, List.setIfInBounds_toArray, List.set_cons_zero, List.set_cons_succ])
              refine wpAnyH_ready (rs := [19]) (by kernel_rfl) (by simp) ?_
              refine AllReadyH.cons (op_at _ 19 _ rfl) (fun K hK => ?_) AllReadyH.nil
              go_simp
              have c23 := dirty_call p P14 _ 0 _ hSe.hd; rw [HDZ.out] at c23; refine c23.mono ?_; rintro e yy ⟨rfl, hyy⟩; obtain rfl := hyy.symm; clear c23
              refine hK.out _ _ (by with_reducible assumption) (fun hHeld => ?_)
              clear hK K
              (try simp only [Act.put, List.setIfInBounds_toArray, List.set_cons_zero, List.set_cons_succ])
              refine wpAnyH_take (i := 20) (v := ?_) (op_at _ 20 _ rfl) (by kernel_rfl) (by kernel_rfl) (by kernel_rfl) (fun _ _ _ h => h) (Or.inl ⟨by rfl, ?_⟩) (by assumption) ?_
              rotate_left 1
              focus (intro w hSw; go_simp; first | done | with_reducible rfl)
              (try simp only [Act.put, List.setIfInBounds_toArray, List.set_cons_zero, List.set_cons_succ])
              refine wpAnyH_take (i := 21) (v := ?_) (op_at _ 21 _ rfl) (by kernel_rfl) (by kernel_rfl) (by kernel_rfl) (fun _ _ _ h => h) (Or.inl ⟨by rfl, ?_⟩) (by assumption) ?_
              rotate_left 1
              focus (intro w hSw; go_simp; first | done | with_reducible rfl)
              (try simp only [Act.put, List.setIfInBounds_toArray, List.set_cons_zero, List.set_cons_succ])
              refine wpAnyH_take (i := 22) (v := ?_) (op_at _ 22 _ rfl) (by kernel_rfl) (by kernel_rfl) (by kernel_rfl) (fun _ _ _ h => h) (Or.inl ⟨by rfl, ?_⟩) (by assumption) ?_
              rotate_left 1
              focus (intro w hSw; go_simp; first | done | with_reducible rfl)
              (try simp only [Act.put, List.setIfInBounds_toArray, List.set_cons_zero, List.set_cons_succ])
              refine wpAnyH_take (i := 23) (v := ?_) (op_at _ 23 _ rfl) (by kernel_rfl) (by kernel_rfl) (by kernel_rfl) (fun _ _ _ h => h) (Or.inl ⟨by rfl, ?_⟩) (by assumption) ?_
              rotate_left 1
              focus (intro w hSw; go_simp; first | done | with_reducible rfl)
              (try simp only [Act.put, List.setIfInBounds_toArray, List.set_cons_zero, List.set_cons_succ])
              refine wpAnyH_ready (rs := [24]) (by kernel_rfl) (by simp) ?_
              refine AllReadyH.cons (op_at _ 24 _ rfl) (fun K hK => ?_) AllReadyH.nil
              go_simp
              have c23 := dirty_call p P14 _ 1 _ hSe.hd; rw [HDZ.out] at c23; refine c23.mono ?_; rintro e yy ⟨rfl, hyy⟩; obtain rfl := hyy.symm; clear c23
              refine hK.out _ _ (by with_reducible assumption) (fun hHeld => ?_)
              clear hK K
              (try simp only [Act.put, List.setIfInBounds_toArray, List.set_cons_zero, List.set_cons_succ])
              refine wpAnyH_take (i := 25) (v := ?_) (op_at _ 25 _ rfl) (by kernel_rfl) (by kernel_rfl) (by kernel_rfl) (fun _ _ _ h => h) (Or.inl ⟨by rfl, ?_⟩) (by assumption) ?_
              rotate_left 1
              focus (intro w hSw; go_simp; first | done | with_reducible rfl)
              (try simp only [Act.put, List.setIfInBounds_toArray, List.set_cons_zero, List.set_cons_succ])
              refine wpAnyH_take (i := 26) (v := ?_) (op_at _ 26 _ rfl) (by kernel_rfl) (by kernel_rfl) (by kernel_rfl) (fun _ _ _ h => h) (Or.inl ⟨by rfl, ?_⟩) (by assumption) ?_
              rotate_left 1
              focus (intro w hSw; go_simp; first | done | with_reducible rfl)
              (try simp only [Act.put, List.setIfInBounds_toArray, List.set_cons_zero, List.set_cons_succ])
              refine wpAnyH_take (i := 27) (v := ?_) (op_at _ 27 _ rfl) (by kernel_rfl) (by kernel_rfl) (by kernel_rfl) (fun _ _ _ h => h) (Or.inl ⟨by rfl, ?_⟩) (by assumption) ?_
              rotate_left 1
              focus (intro w hSw; go_simp; first | done | with_reducible rfl)
              (try simp only [Act.put, List.setIfInBounds_toArray, List.set_cons_zero, List.set_cons_succ])
              refine wpAnyH_ready (rs := [28]) (by kernel_rfl) (by simp) ?_
              refine AllReadyH.cons (op_at _ 28 _ rfl) (fun K hK => ?_) AllReadyH.nil
              go_simp
              refine (lives_any _).mono ?_; rintro e y9 ⟨rfl, hy9⟩; have hSf := hSe.keep hy9
              refine hK.out _ _ (by with_reducible assumption) (fun hHeld => ?_)
              clear hK K
              (try simp only [Act.put, List.setIfInBounds_toArray, List.set_cons_zero, List.set_cons_succ])
              refine wpAnyH_take (i := 29) (v := ?_) (op_at _ 29 _ rfl) (by kernel_rfl) (by kernel_rfl) (by kernel_rfl) (fun _ _ _ h => h) (Or.inl ⟨by rfl, ?_⟩) (by assumption) ?_
              rotate_left 1
              focus (intro w hSw; go_simp; first | done | with_reducible rfl)
              (try simp only [Act.put, List.setIfInBounds_toArray, List.set_cons_zero, List.set_cons_succ])
              refine wpAnyH_take (i := 30) (v := ?_) (op_at _ 30 _ rfl) (by kernel_rfl) (by kernel_rfl) (by kernel_rfl) (fun _ _ _ h => h) (Or.inl ⟨by rfl, ?_⟩) (by assumption) ?_
              rotate_left 1
              focus (intro w hSw; go_simp; first | done | with_reducible rfl)
              (try simp only [Act.put, List.setIfInBounds_toArray, List.set_cons_zero, List.set_cons_succ])
              refine wpAnyH_done (by kernel_rfl) ?_ _
              go_wp2
              go_ret
              exact ⟨rfl, hSf.b⟩
            refine AllReadyH.cons (op_at _ 14 _ rfl) (fun K hK => ?_) ?_
            · go_simp
              refine hK.out _ _ (by with_reducible assumption) (fun hHeld => ?_)
              clear hK K
              (try simp only [Act.put, List.setIfInBounds_toArray, List.set_cons_zero, List.set_cons_succ])
              refine wpAnyH_ready (rs := [11]) (by kernel_rfl) (by simp) ?_
              refine AllReadyH.cons (op_at _ 11 _ rfl) (fun K hK => ?_) AllReadyH.nil
              go_simp
              refine hK.out _ _ (by with_reducible assumption) (fun hHeld => ?_)
              clear hK K
              (try simp only [Act.put, List.setIfInBounds_toArray, List.set_cons_zero, List.set_cons_succ])
              refine wpAnyH_take (i := 15) (v := ?_) (op_at _ 15 _ rfl) (by kernel_rfl) (by kernel_rfl) (by kernel_rfl) (fun _ _ _ h => h) (Or.inl ⟨by rfl, ?_⟩) (by assumption) ?_
              rotate_left 1
              focus (intro w hSw; go_simp; first | done | with_reducible rfl)
              (try simp only [Act.put, List.setIfInBounds_toArray, List.set_cons_zero, List.set_cons_succ])
              refine wpAnyH_take (i := 16) (v := ?_) (op_at _ 16 _ rfl) (by kernel_rfl) (by kernel_rfl) (by kernel_rfl) (fun _ _ _ h => h) (Or.inl ⟨by rfl, ?_⟩) (by assumption) ?_
              rotate_left 1
              focus (intro w hSw; go_simp; first | done | with_reducible rfl)
              (try simp only [Act.put, List.setIfInBounds_toArray, List.set_cons_zero, List.set_cons_succ])
              refine wpAnyH_take (i := 17) (v := ?_) (op_at _ 17 _ rfl) (by kernel_rfl) (by kernel_rfl) (by kernel_rfl) (fun _ _ _ h => h) (Or.inl ⟨by rfl, ?_⟩) (by assumption) ?_
              rotate_left 1
              focus (intro w hSw; go_simp; first | done | with_reducible rfl)
              (try simp only [Act.put, List.setIfInBounds_toArray, List.set_cons_zero, List.set_cons_succ])
              refine wpAnyH_take (i := 18) (v := ?_) (op_at _ 18 _ rfl) (by kernel_rfl) (by kernel_rfl) (by kernel_rfl) (fun _ _ _ h => h) (Or.inl ⟨by rfl, ?_⟩) (by assumption) ?_
              rotate_left 1
              focus (intro w hSw; go_simp; first | done | with_reducible rfl)
              (try simp only [Act.put, List.setIfInBounds_toArray, List.set_cons_zero, List.set_cons_succ])
              refine wpAnyH_ready (rs := [19]) (by kernel_rfl) (by simp) ?_
              refine AllReadyH.cons (op_at _ 19 _ rfl) (fun K hK => ?_) AllReadyH.nil
              go_simp
              have c23 := dirty_call p P14 _ 0 _ hSe.hd; rw [HDZ.out] at c23; refine c23.mono ?_; rintro e yy ⟨rfl, hyy⟩; obtain rfl := hyy.symm; clear c23
              refine hK.out _ _ (by with_reducible assumption) (fun hHeld => ?_)
              clear hK K
              (try simp only [Act.put, List.setIfInBounds_toArray, List.set_cons_zero, List.set_cons_succ])
              refine wpAnyH_take (i := 20) (v := ?_) (op_at _ 20 _ rfl) (by kernel_rfl) (by kernel_rfl) (by kernel_rfl) (fun _ _ _ h => h) (Or.inl ⟨by rfl, ?_⟩) (by assumption) ?_
              rotate_left 1
              focus (intro w hSw; go_simp; first | done | with_reducible rfl)
              (try simp only [Act.put, List.setIfInBounds_toArray, List.set_cons_zero, List.set_cons_succ])
              refine wpAnyH_take (i := 21) (v := ?_) (op_at _ 21 _ rfl) (by kernel_rfl) (by kernel_rfl) (by kernel_rfl) (fun _ _ _ h => h) (Or.inl ⟨by rfl, ?_⟩) (by assumption) ?_
              rotate_left 1
              focus (intro w hSw; go_simp; first | done | with_reducible rfl)
              (try simp only [Act.put, List.setIfInBounds_toArray, List.set_cons_zero, List.set_cons_succ])
              refine wpAnyH_take (i := 22) (v := ?_) (op_at _ 22 _ rfl) (by kernel_rfl) (by kernel_rfl) (by kernel_rfl) (fun _ _ _ h => h) (Or.inl ⟨by rfl, ?_⟩) (by assumption) ?_
              rotate_left 1
              focus (intro w hSw; go_simp; first | done | with_reducible rfl)
              (try simp only [Act.put, List.setIfInBounds_toArray, List.set_cons_zero, List.set_cons_succ])
              refine wpAnyH_take (i := 23) (v := ?_) (op_at _ 23 _ rfl) (by kernel_rfl) (by kernel_rfl) (by kernel_rfl) (fun _ _ _ h => h) (Or.inl ⟨by rfl, ?_⟩) (by assumption) ?_
              rotate_left 1
              focus (intro w hSw; go_simp; first | done | with_reducible rfl)
              (try simp only [Act.put, List.setIfInBounds_toArray, List.set_cons_zero, List.set_cons_succ])
              refine wpAnyH_ready (rs := [24]) (by kernel_rfl) (by simp) ?_
              refine AllReadyH.cons (op_at _ 24 _ rfl) (fun K hK => ?_) AllReadyH.nil
              go_simp
              have c23 := dirty_call p P14 _ 1 _ hSe.hd; rw [HDZ.out] at c23; refine c23.mono ?_; rintro e yy ⟨rfl, hyy⟩; obtain rfl := hyy.symm; clear c23
              refine hK.out _ _ (by with_reducible assumption) (fun hHeld => ?_)
              clear hK K
              (try simp only [Act.put, List.setIfInBounds_toArray, List.set_cons_zero, List.set_cons_succ])
              refine wpAnyH_take (i := 25) (v := ?_) (op_at _ 25 _ rfl) (by kernel_rfl) (by kernel_rfl) (by kernel_rfl) (fun _ _ _ h => h) (Or.inl ⟨by rfl, ?_⟩) (by assumption) ?_
              rotate_left 1
              focus (intro w hSw; go_simp; first | done | with_reducible rfl)
              (try simp only [Act.put, List.setIfInBounds_toArray, List.set_cons_zero, List.set_cons_succ])
              refine wpAnyH_take (i := 26) (v := ?_) (op_at _ 26 _ rfl) (by kernel_rfl) (by kernel_rfl) (by kernel_rfl) (fun _ _ _ h => h) (Or.inl ⟨by rfl, ?_⟩) (by assumption) ?_
              rotate_left 1
              focus (intro w hSw; go_simp; first | done | with_reducible rfl)
              (try simp only [Act.put, List.setIfInBounds_toArray, List.set_cons_zero, List.set_cons_succ])
              refine wpAnyH_take (i := 27) (v := ?_) (op_at _ 27 _ rfl) (by kernel_rfl) (by kernel_rfl) (by kernel_rfl) (fun _ _ _ h => h) (Or.inl ⟨by rfl, ?_⟩) (by assumption) ?_
              rotate_left 1
              focus (intro w hSw; go_simp; first | done | with_reducible rfl)
              (try simp only [Act.put, List.setIfInBounds_toArray, List.set_cons_zero, List.set_cons_succ])
              refine wpAnyH_ready (rs := [28]) (by kernel_rfl) (by simp) ?_
              refine AllReadyH.cons (op_at _ 28 _ rfl) (fun K hK => ?_) AllReadyH.nil
              go_simp
              refine (lives_any _).mono ?_; rintro e y9 ⟨rfl, hy9⟩; have hSf := hSe.keep hy9
              refine hK.out _ _ (by with_reducible assumption) (fun hHeld => ?_)
              clear hK K
              (try simp only [Act.put, List.setIfInBounds_toArray, List.set_cons_zero, List.set_cons_succ])
              refine wpAnyH_take (i := 29) (v := ?_) (op_at _ 29 _ rfl) (by kernel_rfl) (by kernel_rfl) (by kernel_rfl) (fun _ _ _ h => h) (Or.inl ⟨by rfl, ?_⟩) (by assumption) ?_
              rotate_left 1
              focus (intro w hSw; go_simp; first | done | with_reducible rfl)
              (try simp only [Act.put, List.setIfInBounds_toArray, List.set_cons_zero, List.set_cons_succ])
              refine wpAnyH_take (i := 30) (v := ?_) (op_at _ 30 _ rfl) (by kernel_rfl) (by kernel_rfl) (by kernel_rfl) (fun _ _ _ h => h) (Or.inl ⟨by rfl, ?_⟩) (by assumption) ?_
              rotate_left 1
              focus (intro w hSw; go_simp; first | done | with_reducible rfl)
              (try simp only [Act.put, List.setIfInBounds_toArray, List.set_cons_zero, List.set_cons_succ])
              refine wpAnyH_done (by kernel_rfl) ?_ _
              go_wp2
              go_ret
              exact ⟨rfl, hSf.b⟩
            exact AllReadyH.nil
          exact AllReadyH.nil
        exact AllReadyH.nil

end Go.Proofs.Ytkgenmooepfhjaa
