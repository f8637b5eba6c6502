/- The document's cache: Drop, Peek, New, Order; no statement of the seat is proved here. -/
import Derived.Test.YtebjjibgkjgpgaaRe
import Derived.Test.YtebjjibgkjgpgaaEc
namespace Go.Proofs.Ytebjjibgkjgpgaa
open Go.RowKit Go.Maps

theorem others_idx {s : CS} {k : Int} {i : Nat} (hi : idx s.l k = some i) (hnd : (s.l.map Row.page).Nodup) : s.others k = s.l.eraseIdx i := by
  obtain ⟨h1, h2, h3⟩ := idx_spec hi
  have e1 : s.l = s.l.take i ++ s.l[i] :: s.l.drop (i + 1) := by rw [← List.drop_eq_getElem_cons h1, List.take_append_drop]
  rw [List.eraseIdx_eq_take_drop_succ]
  unfold CS.others
  rw [e1] at hnd
  rw [List.map_append, List.map_cons] at hnd
  have n1 := List.nodup_append.1 hnd
  have n2 := List.nodup_cons.1 n1.2.1
  conv => lhs; rw [e1]
  rw [List.filter_append, List.filter_cons]
  have hf : (s.l[i].page != k) = false := by simp [h2]
  rw [hf]
  simp only [Bool.false_eq_true, if_false]
  congr 1
  · refine List.filter_eq_self.2 (fun r hr => ?_)
    have := n1.2.2 r.page (List.mem_map.2 ⟨r, hr, rfl⟩) s.l[i].page (by simp)
    rw [h2] at this
    simpa using this
  · refine List.filter_eq_self.2 (fun r hr => ?_)
    have : r.page ≠ k := fun h0 => n2.1 (List.mem_map.2 ⟨r, hr, by rw [h0, h2]⟩)
    simpa using this
theorem others_idx_none {s : CS} {k : Int} (hi : idx s.l k = none) : s.others k = s.l := by
  unfold idx at hi
  rw [List.findIdx?_eq_none_iff] at hi
  exact List.filter_eq_self.2 (fun r hr => by have := hi r hr; simpa using this)

set_option maxRecDepth 20000 in
set_option maxHeartbeats 1000000 in
theorem rdrop_call (m : Nat) (R : RParts) (s : CS) (k : Int) (w : World) (h : RP w m R s) (hn : R.ps.length ≤ 1000000) (hnd : (s.l.map Row.page).Nodup) :
    Calls Try.prog 38 #[.pointer (some ⟨m, 0, none⟩), .int .i64 k] w fun e w' => e = .returned (.int .i64 (s.drop k).2) ∧ ∃ R', RStep w w' m R R' (s.drop k).1 := by
  have k1 := hid (rfind_any m R s k w h hn)
  cases ho : idx s.l k with
  | none =>
    rw [ho] at k1
    have e1 : s.drop k = (s, 5) := by unfold CS.drop; rw [find_none_idx ho]
    rw [e1]
    have HH := hid h
    clear h e1
    go_enter Try.func38, Try.ntmps38
    go_wp2_with (go_at_call 57; refine k1.out.mono ?_; rintro e w1 ⟨rfl, h1⟩; have H1 := hid h1; clear h1; simp only [idV])
    go_ret
    exact ⟨rfl, _, RStep.later HH.out H1.out⟩
  | some i =>
    rw [ho] at k1
    have c1 := h.c1
    obtain ⟨g, cap, ps, rfl, hi, hi2, hrow, hcap, hgm, hgl, y0, y1, y2, y3, fz⟩ := h.at_ ho
    obtain ⟨n, hnn⟩ : ∃ n, n = ps.length := ⟨_, rfl⟩
    simp only at c1 y2 y3
    rw [← hnn] at c1 hcap
    have hin : i < n := by omega
    have hi1 : (i : Int) < (n : Int) := by omega
    have hi0 : ¬ (i : Int) < 0 := by omega
    rcases Nat.eq_zero_or_pos ps[i].1.pins with hz | hz
    · have e1 : s.drop k = ({ s with l := s.l.eraseIdx i }, 0) := by unfold CS.drop; obtain ⟨_, q⟩ := find_some_idx ho; rw [q, ← hrow, ← others_idx ho hnd]; simp [hz]
      rw [hz] at y2
      simp only [Int.ofNat_zero] at y2
      have k2 : Hid (∀ w1, Below w.heap.size w w1 → Calls Try.prog 58 #[.pointer (some ⟨m, 0, none⟩), .int .i64 (i : Int)] w1 fun e w' => e = .returned (.tuple #[]) ∧ ∃ R', RStep w w' m ⟨some ⟨g, 0, none⟩, cap, ps⟩ R' { s with l := s.l.eraseIdx i }) := by
        refine hid fun w1 hb1 => (rout_any m g cap i n ps s w1 (h.later hb1) hin (by simp only at hn; omega) hnn).mono ?_
        rintro e w' ⟨rfl, R', st⟩
        exact ⟨rfl, R', st.rp, (Fr.of_below hb1).trans st.fr (fun _ _ h => h), fun j hj => by
          rcases st.gr j hj with h1 | h1
          · exact Or.inl h1
          · have := hb1.size; exact Or.inr (by omega)⟩
      rw [e1]
      clear h e1 y0 y1 y3 hrow fz
      go_enter Try.func38, Try.ntmps38
      go_wp2_with (first | (go_at_call 57; refine k1.out.mono ?_; rintro e w1 ⟨rfl, h1⟩; have z1 := keep_old h1 c1; have z2 := keep_old h1 y2; have k3 := hid (k2.out w1 h1); have H1 := hid h1; clear h1 k2; simp only [idV]) | (go_at_call 58; refine k3.out.mono ?_; rintro e w2 ⟨rfl, h2⟩; have H2 := hid h2; clear h2))
      go_ret
      exact ⟨rfl, H2.out⟩
    · have e1 : s.drop k = (s, 6) := by unfold CS.drop; obtain ⟨_, q⟩ := find_some_idx ho; rw [q, ← hrow]; simp only; rw [if_neg (by omega)]
      rw [e1]
      obtain ⟨pn, hpn⟩ : ∃ b, b = ps[i].1.pins := ⟨_, rfl⟩
      rw [← hpn] at y2 hz
      have HH := hid h
      have hz1 : 0 < pn := hz
      clear h e1 y0 y1 y3 hpn hrow fz
      go_enter Try.func38, Try.ntmps38
      go_wp2_with (go_at_call 57; refine k1.out.mono ?_; rintro e w1 ⟨rfl, h1⟩; have z1 := keep_old h1 c1; have z2 := keep_old h1 y2; have H1 := hid h1; clear h1; simp only [idV])
      go_ret
      exact ⟨rfl, _, RStep.later HH.out H1.out⟩

set_option maxRecDepth 20000 in
set_option maxHeartbeats 1000000 in
theorem rpeek_call (m : Nat) (R : RParts) (s : CS) (k : Int) (w : World) (h : RP w m R s) (hn : R.ps.length ≤ 1000000) :
    Calls Try.prog 34 #[.pointer (some ⟨m, 0, none⟩), .int .i64 k] w fun e w' => Bytes (s.peek k) w.heap.size w' e ∧ Below w.heap.size w w' := by
  have k1 := hid (rfind_any m R s k w h hn)
  cases ho : idx s.l k with
  | none =>
    rw [ho] at k1
    have e1 : s.peek k = none := by unfold CS.peek; rw [find_none_idx ho]; rfl
    rw [e1]
    clear h e1
    go_enter Try.func34, Try.ntmps34
    go_wp2_with (go_at_call 57; refine k1.out.mono ?_; rintro e w1 ⟨rfl, h1⟩; have H1 := hid h1; clear h1; simp only [idV])
    go_ret2
    exact ⟨rfl, H1.out⟩
  | some i =>
    rw [ho] at k1
    have c1 := h.c1
    obtain ⟨g, cap, ps, rfl, hi, hi2, hrow, hcap, hgm, hgl, y0, y1, y2, y3, fz⟩ := h.at_ ho
    have hby := h.by_ ps[i] (List.getElem_mem hi)
    obtain ⟨n, hnn⟩ : ∃ n, n = ps.length := ⟨_, rfl⟩
    simp only at c1 y1
    rw [← hnn] at c1 hcap
    have hin : i < n := by omega
    have hi1 : (i : Int) < (n : Int) := by omega
    have hi0 : ¬ (i : Int) < 0 := by omega
    have e1 : s.peek k = some ps[i].1.bytes := by unfold CS.peek; obtain ⟨_, q⟩ := find_some_idx ho; rw [q, hrow]; rfl
    rw [e1]
    obtain ⟨bo, hbo⟩ : ∃ b, b = ps[i].2.bo := ⟨_, rfl⟩
    obtain ⟨bc, hbc⟩ : ∃ b, b = ps[i].2.bc := ⟨_, rfl⟩
    obtain ⟨X, hX⟩ : ∃ b, b = ps[i].1.bytes := ⟨_, rfl⟩
    rw [← hbo, ← hbc] at y1 hby
    rw [← hX] at hby ⊢
    have hlen : X.length = 512 := by have := hby.1; rwa [bs_length] at this
    have hrd : Rd w bo 512 bc X := by
      obtain ⟨ao', cap', e, hr, _⟩ := rd_owned hby
      simp only [Value.slice.injEq, true_and] at e
      obtain ⟨rfl, rfl⟩ := e
      exact hr
    have HRD := hid hrd; have HLEN := hid hlen
    clear h e1 y0 y2 y3 hbo hbc hX hrow fz hby hrd hlen
    go_enter Try.func34, Try.ntmps34
    go_wp2_with (first
      | (go_at_call 57; refine k1.out.mono ?_; rintro e w1 ⟨rfl, h1⟩; have z1 := keep_old h1 c1; have z2 := keep_old h1 y1; have hR1 := hid (HRD.out.keep h1); have hg1 : ¬ g = w1.heap.size := (by have := h1.size; omega); have hg2 : g < w1.heap.size := (by have := h1.size; omega); have hm1 := lt_cell z1; simp only at hm1; have hm2 : ¬ m = w1.heap.size := (by omega); have H1 := hid h1; clear h1; simp only [idV])
      | ((with_reducible refine here_op 21 ?_); refine wpList_append_rd rfl (.tmp 12) (.tmp 20) rfl w1.heap.size _ 0 [] rfl (World.ownsRow_made w1 #[] 0 (Nat.le_refl _) (by decide) rfl) _ 512 bc X rfl (hR1.out.keep ((Below.refl _ _).alloc (Nat.le_refl _) _)) (by omega) (by simp) ?_; intro v' w2 ho2 hb2; simp only [Nat.zero_add, List.nil_append] at ho2; obtain ⟨ao', cap', e1, _, _⟩ := rd_owned ho2; subst e1; have HO2 := hid ho2; have HB2 := hid hb2; clear ho2 hb2))
    go_ret2
    refine ⟨⟨HLEN.out, ao', cap', rfl, ?_⟩, ?_⟩
    · exact own_base HO2.out H1.out.size
    · exact gt H1.out (((Below.refl _ _).alloc (Nat.le_refl _) _).trans HB2.out)

set_option maxHeartbeats 1000000 in
theorem rnew_no (r : Int) (w : World) (hr : r < 1 ∨ 4096 < r) : Calls Try.prog 10 #[.int .i64 r] w fun e w' => e = .returned (.pointer none) ∧ w' = w := by
  rcases Int.lt_or_le r 1 with h1 | h1
  · clear hr
    go_enter Try.func10, Try.ntmps10
    go_wp2
    go_ret
    exact ⟨rfl, rfl⟩
  · have h2 : 4096 < r := by omega
    have h3 : ¬ r < 1 := by omega
    clear hr
    go_enter Try.func10, Try.ntmps10
    go_wp2
    go_ret
    exact ⟨rfl, rfl⟩

set_option maxHeartbeats 1000000 in
theorem rnew_yes (r : Nat) (w : World) (h1 : 1 ≤ r) (h2 : r ≤ 4096) : Calls Try.prog 10 #[.int .i64 (r : Int)] w fun e w' => ∃ m, e = .returned (.pointer (some ⟨m, 0, none⟩)) ∧ ∃ R, RP w' m R ⟨r, [], 0, 0⟩ ∧ (∀ k, R.T m k → w.heap.size ≤ k) ∧ Below w.heap.size w w' ∧ w'.heap.size = w.heap.size + 1 := by
  have h3 : ¬ (r : Int) < 1 := by omega
  have h4 : ¬ (4096 : Int) < (r : Int) := by omega
  go_enter Try.func10, Try.ntmps10
  go_wp2
  go_ret
  refine ⟨w.heap.size, rfl, ⟨none, 0, []⟩, ⟨heap_alloc_new w _, World.ownsRow_nil _ _ _ _, fun p hp => by simp at hp, rfl⟩, ?_, (Below.refl _ w).alloc (Nat.le_refl _) _, by simp⟩
  rintro k ((rfl | ⟨a, ha, _⟩) | ⟨p, hp, _⟩)
  · exact Nat.le_refl _
  · cases ha
  · simp at hp

end Go.Proofs.Ytebjjibgkjgpgaa
