/- What Read of the document's disk tells; no statement of the seat is proved here. -/
import Derived.Test.YtkgenmooepfhjaaEd
namespace Go.Proofs.Ytkgenmooepfhjaa
open Go.RowKit Go.Maps

theorem row_cell {w : World} {e : TypeId} {ao : Option Addr} {n c : Nat} {xs : List Value} (h : w.ownsRow 0 e 1 (.slice ao n c) n xs) {i : Nat} (hi : i < n) : ∃ g, ao = some ⟨g, 0, none⟩ ∧ w.cell? ⟨g, i, none⟩ = xs[i]? ∧ g < w.heap.size ∧ n ≤ c := by
  rcases h.2 with ⟨hv, hz⟩ | ⟨g, cap', cur, hv, _, hg, hnc, _⟩
  · omega
  · simp only [Value.slice.injEq, true_and] at hv
    obtain ⟨rfl, rfl⟩ := hv
    exact ⟨g, rfl, h.cellAt i (by omega), (Array.getElem?_eq_some_iff.1 hg).1, hnc⟩
theorem row_nil {w : World} {e : TypeId} {n c : Nat} {xs : List Value} (h : w.ownsRow 0 e 1 (.slice none n c) n xs) : n = 0 ∧ c = 0 := by
  rcases h.2 with ⟨hv, hz⟩ | ⟨g, cap', cur, hv, _⟩
  · simp only [Value.slice.injEq, true_and] at hv; exact ⟨hz, hv.2⟩
  · simp at hv
theorem row_some {w : World} {e : TypeId} {ao : Option Addr} {n c : Nat} {xs : List Value} (h : w.ownsRow 0 e 1 (.slice ao n c) n xs) : (ao = none ∧ n = 0 ∧ c = 0) ∨ ∃ g, ao = some ⟨g, 0, none⟩ ∧ n ≤ c ∧ g < w.heap.size := by
  rcases h.2 with ⟨hv, hz⟩ | ⟨g, cap', cur, hv, _, hg, hnc, _⟩
  · simp only [Value.slice.injEq] at hv; exact Or.inl ⟨hv.1, hz, hv.2.2⟩
  · simp only [Value.slice.injEq, true_and] at hv
    obtain ⟨rfl, rfl⟩ := hv
    exact Or.inr ⟨g, rfl, hnc, (Array.getElem?_eq_some_iff.1 hg).1⟩

set_option maxHeartbeats 1000000 in
theorem rread_off (r : Nat) (R : RParts) (d : DS) (f at_ n : Int) (w : World) (h : RefP w r R d) (hx : d.off = true ∨ known f = false) :
    Calls Try.prog 15 #[.pointer (some ⟨r, 0, none⟩), .int .i64 f, .int .i64 at_, .int .i64 n] w fun e w' => e = .returned (.tuple #[.slice none 0 0, .int .i64 (if d.off then 4 else 11)]) ∧ w' = w := by
  have c7 := h.c7
  clear h
  cases ho : d.off <;> rw [ho] at c7 hx
  · have hk : known f = false := by rcases hx with h | h; cases h; exact h
    clear hx
    by_cases h0 : f < 0
    · go_enter Try.func15, Try.ntmps15
      go_wp2
      go_ret2
      exact ⟨rfl, rfl⟩
    · have h1 : 1 < f := by rcases known_false hk with h | h; omega; exact h
      have h0' : decide (f < 0) = false := by simp; omega
      go_enter Try.func15, Try.ntmps15
      go_wp2
      go_ret2
      exact ⟨rfl, rfl⟩
  · clear hx
    go_enter Try.func15, Try.ntmps15
    go_wp2
    go_ret2
    exact ⟨rfl, rfl⟩

set_option maxHeartbeats 4000000 in
set_option maxRecDepth 20000 in
theorem rread_0 (r : Nat) (R : RParts) (d : DS) (at_ n : Int) (w : World) (h : RefP w r R d) (ho : d.off = false) (hab : I64 at_) (hnb : I64 n) :
    Calls Try.prog 15 #[.pointer (some ⟨r, 0, none⟩), .int .i64 0, .int .i64 at_, .int .i64 n] w fun e w' => ∃ ro rc, e = .returned (.tuple #[.slice ro (readD d 0 at_ n).1.length rc, .int .i64 (readD d 0 at_ n).2]) ∧ Rd w' ro (readD d 0 at_ n).1.length rc (readD d 0 at_ n).1 ∧ (∀ a, ro = some a → w.heap.size ≤ a.block) ∧ Below w.heap.size w w' := by
  have c7 := h.c7
  rw [ho] at c7
  have H := hid h
  have c3 := h.f0.c0
  have hr2 := h.ok.r2; have hsum := h.ok.sum
  obtain ⟨L, hLL⟩ : ∃ L, L = d.f0.now.length := ⟨_, rfl⟩
  rw [← hLL] at c3
  have hlb : L ≤ 32768 := by omega
  have HLL := hid hLL
  have hab1 := hab.1; have hab2 := hab.2; have hnb1 := hnb.1; have hnb2 := hnb.2
  have hwd : readD d 0 at_ n = if at_ < 0 ∨ n < 0 ∨ (L : Int) - at_ < n then ([], 11) else (((d.f0.now.drop at_.toNat).take n.toNat).flatten, 0) := by
    simp only [readD, ho, hLL]; rfl
  rw [hwd]
  clear hwd h hLL hsum hr2 hab hnb
  by_cases h1 : at_ < 0
  · rw [if_pos (Or.inl h1)]
    go_enter Try.func15, Try.ntmps15
    go_wp2
    go_ret2
    exact ⟨none, 0, rfl, Rd.nil _, fun a ha => (by cases ha), Below.refl _ _⟩
  · have h1' : decide (at_ < 0) = false := by simp; omega
    by_cases h2 : n < 0
    · rw [if_pos (Or.inr (Or.inl h2))]
      go_enter Try.func15, Try.ntmps15
      go_wp2
      go_ret2
      exact ⟨none, 0, rfl, Rd.nil _, fun a ha => (by cases ha), Below.refl _ _⟩
    · have h2' : decide (n < 0) = false := by simp; omega
      by_cases h3 : (L : Int) - at_ < n
      · rw [if_pos (Or.inr (Or.inr h3))]
        by_cases h4 : (L : Int) < at_
        · go_enter Try.func15, Try.ntmps15
          go_wp2
          go_ret2
          exact ⟨none, 0, rfl, Rd.nil _, fun a ha => (by cases ha), Below.refl _ _⟩
        · have h4' : decide ((L : Int) < at_) = false := by simp; omega
          go_enter Try.func15, Try.ntmps15
          go_wp2
          go_ret2
          exact ⟨none, 0, rfl, Rd.nil _, fun a ha => (by cases ha), Below.refl _ _⟩
      · rw [if_neg (by omega)]
        obtain ⟨A, rfl⟩ := Int.eq_ofNat_of_zero_le (show 0 ≤ at_ by omega)
        obtain ⟨N, rfl⟩ := Int.eq_ofNat_of_zero_le (show 0 ≤ n by omega)
        rw [Int.toNat_natCast, Int.toNat_natCast]
        have hAN : A + N ≤ L := by omega
        have hpl := H.out.rlt
        have hrow := H.out.f0.rn
        rw [← HLL.out] at hrow
        rcases row_some hrow with ⟨hnone, hL0, hc0⟩ | ⟨g, hg, hcap, hgl⟩
        · have hA0 : A = 0 := by omega
          have hN0 : N = 0 := by omega
          subst hA0; subst hN0
          rw [hnone, hL0, hc0] at c3
          clear hrow h1 h2 h3 h1' h2'
          go_enter Try.func15, Try.ntmps15
          go_wp2
          refine wp_loop_rounds 1 ?_
          rw [rounds_succ]
          go_wp2
          go_ret2
          exact ⟨none, 0, rfl, Rd.nil _, fun a ha => (by cases ha), Below.refl _ _⟩
        · rw [hg] at c3
          obtain ⟨total, htot⟩ : ∃ total, total = ((d.f0.now.drop A).take N).flatten := ⟨_, rfl⟩
          rw [← htot]
          have htl : total.length = N * 128 := by
            have : ∀ (l : List Sec), (∀ x ∈ l, x.length = 128) → l.flatten.length = l.length * 128 := fun l hl => by have := secs_length hl; rw [secs, bs_length] at this; exact this
            rw [htot, this _ (fun x hx => H.out.ok.ok0.sn x (List.mem_of_mem_drop (List.mem_of_mem_take hx))), List.length_take, List.length_drop, ← HLL.out, Nat.min_eq_left (by omega)]
          have HTL := hid htl; have HTO := hid htot; have HG := hid hg
          have h3' : ¬ ((L : Int) - (A : Int) < (N : Int)) := h3
          have h4 : ¬ ((L : Int) < (A : Int)) := by omega
          clear h1 h2 htl htot hrow hg
          have hA0 : ¬ ((A : Int) < 0) := by omega
          have hN0 : ¬ ((N : Int) < 0) := by omega
          obtain ⟨cp, hcp⟩ : ∃ cp, cp = R.B0.cN := ⟨_, rfl⟩
          rw [← hcp] at c3 hcap
          have hs1 : (A : Int) + (N : Int) ≤ (cp : Int) := by omega
          have HCP := hid hcp
          clear hcp
          by_cases hca : cp = A
          · have hNz : N = 0 := by omega
            subst hNz
            have htn : total = [] := List.eq_nil_of_length_eq_zero (by rw [HTL.out])
            subst htn
            go_enter Try.func15, Try.ntmps15
            go_wp2
            refine wp_loop_rounds 1 ?_
            rw [rounds_succ]
            go_wp2
            go_ret2
            exact ⟨none, 0, rfl, Rd.nil _, fun a ha => (by cases ha), Below.refl _ _⟩
          go_enter Try.func15, Try.ntmps15
          go_wp2
          go_loopw [10, 70] (fun o c W => ∃ (k : Nat) (ys : List Nat), k ≤ N ∧ c = .int .i64 (k : Int) ∧ Hid (ys ++ ((d.f0.now.drop (A + k)).take (N - k)).flatten = total) ∧ Hid (ys.length = k * 128) ∧ Hid (W.ownsRow w.heap.size 5 1 o (k * 128) (bs ys)) ∧ Hid (Below w.heap.size w W)) (fun _ c _ => N - (intOf c).toNat)
          case atStart => exact ⟨0, [], Nat.zero_le _, by simp, hid (by rw [HTO.out]; simp), rfl, hid (World.ownsRow_nil _ _ _ _), hid (Below.refl _ _)⟩
          case round =>
            obtain ⟨k, ys, hk, rfl, hys, hyl, hown, hbw⟩ := hrel
            have hd := H.out.later hbw.out
            obtain ⟨ro, rc, hv, hrd, hrb⟩ := rd_owned hown.out
            have HRB := hid hrb
            clear hrb
            subst hv
            by_cases hkN : k < N
            · have hkN' : (k : Int) < (N : Int) := by omega
              obtain ⟨g', hg', hcell, _⟩ := row_cell hd.f0.rn (i := A + k) (by rw [← HLL.out]; omega)
              rw [HG.out] at hg'
              cases hg'
              obtain ⟨v, hvv, hsec⟩ := hd.f0.an.get (i := A + k) (by rw [← HLL.out]; omega)
              rw [hvv] at hcell
              obtain ⟨gs, cs, rfl, hcs, _⟩ := hsec.form
              have hrs := rd_own hsec.1
              have HRS := hid hrs
              have hz := hbw.out.size
              clear hd hrs hrd hsec hvv
              go_wp2_with ((with_reducible refine here_op 76 ?_); refine wpList_append_rd rfl (.tmp 74) (.tmp 75) rfl w.heap.size _ (k * 128) ys rfl hown.out (some ⟨gs, 0, none⟩) 128 cs _ rfl HRS.out (by omega) hz ?_; intro v1 w1 ho1 hb1; replace ho1 := hid ho1; replace hb1 := hid hb1)
              go_roundw
              case measure => simp [intOf]; omega
              case rel =>
              refine ⟨k + 1, ys ++ d.f0.now.getD (A + k) [], by omega, by simp, hid ?_, hid ?_, hid ?_, hid (hbw.out.trans hb1.out)⟩
              · rw [List.append_assoc, ← take_step _ A k N hkN (by rw [← HLL.out]; omega)]; exact hys.out
              · rw [List.length_append, hyl.out, HRS.out.1]; omega
              · have := ho1.out; rw [show (k + 1) * 128 = k * 128 + 128 by omega]; exact this
            · have hkE : k = N := by omega
              subst hkE
              have hkN' : ¬ ((k : Int) < (k : Int)) := by omega
              have hyT : ys = total := by have := hys.out; simpa using this
              subst hyT
              have HRD := hid hrd
              clear hd hrd
              go_wp2
              go_ret2
              refine ⟨ro, rc, ?_, ?_, HRB.out, hbw.out⟩
              · rw [HTL.out]; rfl
              · rw [HTL.out]; exact HRD.out

set_option maxHeartbeats 4000000 in
set_option maxRecDepth 20000 in
theorem rread_1 (r : Nat) (R : RParts) (d : DS) (at_ n : Int) (w : World) (h : RefP w r R d) (ho : d.off = false) (hab : I64 at_) (hnb : I64 n) :
    Calls Try.prog 15 #[.pointer (some ⟨r, 0, none⟩), .int .i64 1, .int .i64 at_, .int .i64 n] w fun e w' => ∃ ro rc, e = .returned (.tuple #[.slice ro (readD d 1 at_ n).1.length rc, .int .i64 (readD d 1 at_ n).2]) ∧ Rd w' ro (readD d 1 at_ n).1.length rc (readD d 1 at_ n).1 ∧ (∀ a, ro = some a → w.heap.size ≤ a.block) ∧ Below w.heap.size w w' := by
  have c7 := h.c7
  rw [ho] at c7
  have H := hid h
  have c3 := h.f1.c0
  have hr2 := h.ok.r2; have hsum := h.ok.sum
  obtain ⟨L, hLL⟩ : ∃ L, L = d.f1.now.length := ⟨_, rfl⟩
  rw [← hLL] at c3
  have hlb : L ≤ 32768 := by omega
  have HLL := hid hLL
  have hab1 := hab.1; have hab2 := hab.2; have hnb1 := hnb.1; have hnb2 := hnb.2
  have hwd : readD d 1 at_ n = if at_ < 0 ∨ n < 0 ∨ (L : Int) - at_ < n then ([], 11) else (((d.f1.now.drop at_.toNat).take n.toNat).flatten, 0) := by
    simp only [readD, ho, hLL]; rfl
  rw [hwd]
  clear hwd h hLL hsum hr2 hab hnb
  by_cases h1 : at_ < 0
  · rw [if_pos (Or.inl h1)]
    go_enter Try.func15, Try.ntmps15
    go_wp2
    go_ret2
    exact ⟨none, 0, rfl, Rd.nil _, fun a ha => (by cases ha), Below.refl _ _⟩
  · have h1' : decide (at_ < 0) = false := by simp; omega
    by_cases h2 : n < 0
    · rw [if_pos (Or.inr (Or.inl h2))]
      go_enter Try.func15, Try.ntmps15
      go_wp2
      go_ret2
      exact ⟨none, 0, rfl, Rd.nil _, fun a ha => (by cases ha), Below.refl _ _⟩
    · have h2' : decide (n < 0) = false := by simp; omega
      by_cases h3 : (L : Int) - at_ < n
      · rw [if_pos (Or.inr (Or.inr h3))]
        by_cases h4 : (L : Int) < at_
        · go_enter Try.func15, Try.ntmps15
          go_wp2
          go_ret2
          exact ⟨none, 0, rfl, Rd.nil _, fun a ha => (by cases ha), Below.refl _ _⟩
        · have h4' : decide ((L : Int) < at_) = false := by simp; omega
          go_enter Try.func15, Try.ntmps15
          go_wp2
          go_ret2
          exact ⟨none, 0, rfl, Rd.nil _, fun a ha => (by cases ha), Below.refl _ _⟩
      · rw [if_neg (by omega)]
        obtain ⟨A, rfl⟩ := Int.eq_ofNat_of_zero_le (show 0 ≤ at_ by omega)
        obtain ⟨N, rfl⟩ := Int.eq_ofNat_of_zero_le (show 0 ≤ n by omega)
        rw [Int.toNat_natCast, Int.toNat_natCast]
        have hAN : A + N ≤ L := by omega
        have hpl := H.out.rlt
        have hrow := H.out.f1.rn
        rw [← HLL.out] at hrow
        rcases row_some hrow with ⟨hnone, hL0, hc0⟩ | ⟨g, hg, hcap, hgl⟩
        · have hA0 : A = 0 := by omega
          have hN0 : N = 0 := by omega
          subst hA0; subst hN0
          rw [hnone, hL0, hc0] at c3
          clear hrow h1 h2 h3 h1' h2'
          go_enter Try.func15, Try.ntmps15
          go_wp2
          refine wp_loop_rounds 1 ?_
          rw [rounds_succ]
          go_wp2
          go_ret2
          exact ⟨none, 0, rfl, Rd.nil _, fun a ha => (by cases ha), Below.refl _ _⟩
        · rw [hg] at c3
          obtain ⟨total, htot⟩ : ∃ total, total = ((d.f1.now.drop A).take N).flatten := ⟨_, rfl⟩
          rw [← htot]
          have htl : total.length = N * 128 := by
            have : ∀ (l : List Sec), (∀ x ∈ l, x.length = 128) → l.flatten.length = l.length * 128 := fun l hl => by have := secs_length hl; rw [secs, bs_length] at this; exact this
            rw [htot, this _ (fun x hx => H.out.ok.ok1.sn x (List.mem_of_mem_drop (List.mem_of_mem_take hx))), List.length_take, List.length_drop, ← HLL.out, Nat.min_eq_left (by omega)]
          have HTL := hid htl; have HTO := hid htot; have HG := hid hg
          have h3' : ¬ ((L : Int) - (A : Int) < (N : Int)) := h3
          have h4 : ¬ ((L : Int) < (A : Int)) := by omega
          clear h1 h2 htl htot hrow hg
          have hA0 : ¬ ((A : Int) < 0) := by omega
          have hN0 : ¬ ((N : Int) < 0) := by omega
          obtain ⟨cp, hcp⟩ : ∃ cp, cp = R.B1.cN := ⟨_, rfl⟩
          rw [← hcp] at c3 hcap
          have hs1 : (A : Int) + (N : Int) ≤ (cp : Int) := by omega
          have HCP := hid hcp
          clear hcp
          by_cases hca : cp = A
          · have hNz : N = 0 := by omega
            subst hNz
            have htn : total = [] := List.eq_nil_of_length_eq_zero (by rw [HTL.out])
            subst htn
            go_enter Try.func15, Try.ntmps15
            go_wp2
            refine wp_loop_rounds 1 ?_
            rw [rounds_succ]
            go_wp2
            go_ret2
            exact ⟨none, 0, rfl, Rd.nil _, fun a ha => (by cases ha), Below.refl _ _⟩
          go_enter Try.func15, Try.ntmps15
          go_wp2
          go_loopw [10, 70] (fun o c W => ∃ (k : Nat) (ys : List Nat), k ≤ N ∧ c = .int .i64 (k : Int) ∧ Hid (ys ++ ((d.f1.now.drop (A + k)).take (N - k)).flatten = total) ∧ Hid (ys.length = k * 128) ∧ Hid (W.ownsRow w.heap.size 5 1 o (k * 128) (bs ys)) ∧ Hid (Below w.heap.size w W)) (fun _ c _ => N - (intOf c).toNat)
          case atStart => exact ⟨0, [], Nat.zero_le _, by simp, hid (by rw [HTO.out]; simp), rfl, hid (World.ownsRow_nil _ _ _ _), hid (Below.refl _ _)⟩
          case round =>
            obtain ⟨k, ys, hk, rfl, hys, hyl, hown, hbw⟩ := hrel
            have hd := H.out.later hbw.out
            obtain ⟨ro, rc, hv, hrd, hrb⟩ := rd_owned hown.out
            have HRB := hid hrb
            clear hrb
            subst hv
            by_cases hkN : k < N
            · have hkN' : (k : Int) < (N : Int) := by omega
              obtain ⟨g', hg', hcell, _⟩ := row_cell hd.f1.rn (i := A + k) (by rw [← HLL.out]; omega)
              rw [HG.out] at hg'
              cases hg'
              obtain ⟨v, hvv, hsec⟩ := hd.f1.an.get (i := A + k) (by rw [← HLL.out]; omega)
              rw [hvv] at hcell
              obtain ⟨gs, cs, rfl, hcs, _⟩ := hsec.form
              have hrs := rd_own hsec.1
              have HRS := hid hrs
              have hz := hbw.out.size
              clear hd hrs hrd hsec hvv
              go_wp2_with ((with_reducible refine here_op 76 ?_); refine wpList_append_rd rfl (.tmp 74) (.tmp 75) rfl w.heap.size _ (k * 128) ys rfl hown.out (some ⟨gs, 0, none⟩) 128 cs _ rfl HRS.out (by omega) hz ?_; intro v1 w1 ho1 hb1; replace ho1 := hid ho1; replace hb1 := hid hb1)
              go_roundw
              case measure => simp [intOf]; omega
              case rel =>
              refine ⟨k + 1, ys ++ d.f1.now.getD (A + k) [], by omega, by simp, hid ?_, hid ?_, hid ?_, hid (hbw.out.trans hb1.out)⟩
              · rw [List.append_assoc, ← take_step _ A k N hkN (by rw [← HLL.out]; omega)]; exact hys.out
              · rw [List.length_append, hyl.out, HRS.out.1]; omega
              · have := ho1.out; rw [show (k + 1) * 128 = k * 128 + 128 by omega]; exact this
            · have hkE : k = N := by omega
              subst hkE
              have hkN' : ¬ ((k : Int) < (k : Int)) := by omega
              have hyT : ys = total := by have := hys.out; simpa using this
              subst hyT
              have HRD := hid hrd
              clear hd hrd
              go_wp2
              go_ret2
              refine ⟨ro, rc, ?_, ?_, HRB.out, hbw.out⟩
              · rw [HTL.out]; rfl
              · rw [HTL.out]; exact HRD.out

theorem rread_call (r : Nat) (R : RParts) (d : DS) (f at_ n : Int) (w : World) (h : RefP w r R d) (hab : I64 at_) (hnb : I64 n) :
    Calls Try.prog 15 #[.pointer (some ⟨r, 0, none⟩), .int .i64 f, .int .i64 at_, .int .i64 n] w fun e w' => ∃ ro rc, e = .returned (.tuple #[.slice ro (readD d f at_ n).1.length rc, .int .i64 (readD d f at_ n).2]) ∧ Rd w' ro (readD d f at_ n).1.length rc (readD d f at_ n).1 ∧ (∀ a, ro = some a → w.heap.size ≤ a.block) ∧ Below w.heap.size w w' := by
  by_cases hx : d.off = true ∨ known f = false
  · have e : readD d f at_ n = ([], if d.off then 4 else 11) := by
      unfold readD
      rcases hx with h | h
      · simp [h]
      · cases d.off <;> simp [h]
    rw [e]
    refine (rread_off r R d f at_ n w h hx).mono ?_
    rintro e w' ⟨rfl, rfl⟩
    exact ⟨none, 0, rfl, Rd.nil _, fun a ha => (by cases ha), Below.refl _ _⟩
  · have ho : d.off = false := by cases h' : d.off; rfl; exact absurd (Or.inl h') hx
    have hk : known f = true := by cases h' : known f; exact absurd (Or.inr h') hx; rfl
    rcases known_cases hk with rfl | rfl
    · exact rread_0 r R d at_ n w h ho hab hnb
    · exact rread_1 r R d at_ n w h ho hab hnb

end Go.Proofs.Ytkgenmooepfhjaa
