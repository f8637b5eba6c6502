/- What Sectors and Dirty tell; what slices.Clone and maps.Clone make. No statement of the seat is proved here. -/
import Derived.Test.YtkgenmooepfhjaaBk
import Derived.Lib.SliceRun
namespace Go.Proofs.Ytkgenmooepfhjaa
open Go.RowKit Go.Maps

def lenD (d : DS) (f : Int) : Nat := if known f then (d.file f).now.length else 0
def dirtyD (d : DS) (f : Int) : Nat := if known f then (idx (d.file f).dirt).length else 0

set_option maxHeartbeats 1000000 in
theorem sectors_call (p : Nat) (P : Parts) (d : DS) (f : Int) (w : World) (h : DiskP w p P d) : Calls Try.prog 19 #[.pointer (some ⟨p, 0, none⟩), .int .i64 f] w fun e w' => e = .returned (.int .i64 (lenD d f : Int)) ∧ w' = w := by
  have c := hid (made_yes p d.room w h.c0 h.ok.r1)
  have ck := known_any f w
  have c3 := h.f0.c0; have c6 := h.f1.c0
  clear h
  cases hk : known f
  · rw [hk] at ck
    have CK := hid ck
    have e : lenD d f = 0 := by simp [lenD, hk]
    rw [e]
    clear ck e
    go_enter Try.func19, Try.ntmps19
    go_wp2_with (first | (go_at_call 46; refine c.out.mono ?_; rintro e wx ⟨rfl, hw⟩; obtain rfl := hw.symm; clear c) | (go_at_call 47; refine CK.out.mono ?_; rintro e wx ⟨rfl, hw⟩; obtain rfl := hw.symm))
    go_ret
    exact ⟨rfl, rfl⟩
  · rw [hk] at ck
    have CK := hid ck
    clear ck
    rcases known_cases hk with rfl | rfl
    · have e : lenD d 0 = d.f0.now.length := rfl
      rw [e]
      clear e
      go_enter Try.func19, Try.ntmps19
      go_wp2_with (first | (go_at_call 46; refine c.out.mono ?_; rintro e wx ⟨rfl, hw⟩; obtain rfl := hw.symm; clear c) | (go_at_call 47; refine CK.out.mono ?_; rintro e wx ⟨rfl, hw⟩; obtain rfl := hw.symm))
      go_ret
      exact ⟨rfl, rfl⟩
    · have e : lenD d 1 = d.f1.now.length := rfl
      rw [e]
      clear e
      go_enter Try.func19, Try.ntmps19
      go_wp2_with (first | (go_at_call 46; refine c.out.mono ?_; rintro e wx ⟨rfl, hw⟩; obtain rfl := hw.symm; clear c) | (go_at_call 47; refine CK.out.mono ?_; rintro e wx ⟨rfl, hw⟩; obtain rfl := hw.symm))
      go_ret
      exact ⟨rfl, rfl⟩

theorem len_map {w : World} {m n : Nat} {D : DataW Unit} (h : w.ownsMap Try.prog 3 secR m n D) : (Builtin.len_ #[58] 3 #[.map (some m)]).run Try.prog w = .ok (.int .i64 (Maps.size D)) w := h.len Try.underlying58 3

set_option maxHeartbeats 1000000 in
set_option maxRecDepth 20000 in
theorem dirty_call (p : Nat) (P : Parts) (d : DS) (f : Int) (w : World) (h : DiskP w p P d) : Calls Try.prog 23 #[.pointer (some ⟨p, 0, none⟩), .int .i64 f] w fun e w' => e = .returned (.int .i64 (dirtyD d f : Int)) ∧ w' = w := by
  have c := hid (made_yes p d.room w h.c0 h.ok.r1)
  have ck := known_any f w
  have c5 := h.f0.c2; have c8 := h.f1.c2
  have H := hid h
  clear h
  cases hk : known f
  · rw [hk] at ck
    have CK := hid ck
    have e : dirtyD d f = 0 := by simp [dirtyD, hk]
    rw [e]
    clear ck e
    go_enter Try.func23, Try.ntmps23
    go_wp2_with (first | (go_at_call 46; refine c.out.mono ?_; rintro e wx ⟨rfl, hw⟩; obtain rfl := hw.symm; clear c) | (go_at_call 47; refine CK.out.mono ?_; rintro e wx ⟨rfl, hw⟩; obtain rfl := hw.symm))
    go_ret
    exact ⟨rfl, rfl⟩
  · rw [hk] at ck
    have CK := hid ck
    clear ck
    rcases known_cases hk with rfl | rfl
    · have e : dirtyD d 0 = (idx d.f0.dirt).length := rfl
      rw [e, ← size_dirt d.f0.dirt d.f0.old]
      clear e
      go_enter Try.func23, Try.ntmps23
      go_wp2_with (first | (go_at_call 46; refine c.out.mono ?_; rintro e wx ⟨rfl, hw⟩; obtain rfl := hw.symm; clear c) | (go_at_call 47; refine CK.out.mono ?_; rintro e wx ⟨rfl, hw⟩; obtain rfl := hw.symm) | ((with_reducible refine here_op 20 ?_); refine wpList_len_own _ rfl (.tmp 19) 58 rfl 3 80 Try.underlying58 secR P.m0 _ _ rfl H.out.f0.map ?_))
      go_ret
      exact ⟨rfl, rfl⟩
    · have e : dirtyD d 1 = (idx d.f1.dirt).length := rfl
      rw [e, ← size_dirt d.f1.dirt d.f1.old]
      clear e
      go_enter Try.func23, Try.ntmps23
      go_wp2_with (first | (go_at_call 46; refine c.out.mono ?_; rintro e wx ⟨rfl, hw⟩; obtain rfl := hw.symm; clear c) | (go_at_call 47; refine CK.out.mono ?_; rintro e wx ⟨rfl, hw⟩; obtain rfl := hw.symm) | ((with_reducible refine here_op 20 ?_); refine wpList_len_own _ rfl (.tmp 19) 58 rfl 3 80 Try.underlying58 secR P.m1 _ _ rfl H.out.f1.map ?_))
      go_ret
      exact ⟨rfl, rfl⟩

theorem nil30 (W : World) (a : Option Addr) (n c : Nat) : (binOp .eql 30 (.slice a n c) (.slice none 0 0)).run Try.prog W = .ok (.bool a.isNone) W := Lib.run_eql_slice_nil W 30 4 a n c 0 0 Try.underlying30
theorem nil57 (W : World) (a : Option Addr) (n c : Nat) : (binOp .eql 57 (.slice a n c) (.slice none 0 0)).run Try.prog W = .ok (.bool a.isNone) W := Lib.run_eql_slice_nil W 57 80 a n c 0 0 Try.underlying57

theorem info4 : (Try.prog.info? 4).map (fun i => (i.zero, i.size, i.bytes)) = some (some (.bool false), 1, 1) := by kernel_rfl
def vb (xs : List Bool) : List Value := xs.map Value.bool
theorem vb_one (xs : List Bool) : ∀ u ∈ vb xs, u.oneCell' = true := by
  intro u hu
  obtain ⟨x, _, rfl⟩ := List.mem_map.1 hu
  rfl
theorem vb_get {xs : List Bool} {j : Nat} {u : Value} (h : (vb xs)[j]? = some u) : j < xs.length ∧ u = .bool (xs.getD j false) := by
  have hl : j < xs.length := by have := (List.getElem?_eq_some_iff.1 h).1; simpa [vb] using this
  refine ⟨hl, ?_⟩
  simp [vb, List.getElem?_map, List.getElem?_eq_getElem hl] at h
  rw [← h, List.getD, List.getElem?_eq_getElem hl]; rfl

/-- A slice of bools of one's own can be read. -/
theorem rdB_own {w : World} {B : Nat} {v : Value} {xs : List Bool} (h : w.ownsRow B 4 1 v xs.length (vb xs)) : ∃ ko kc, v = .slice ko xs.length kc ∧ RdB w ko xs ∧ ∀ a, ko = some a → B ≤ a.block ∧ a.block < w.heap.size := by
  rcases h.2 with ⟨rfl, h0⟩ | ⟨g, cap, cur, rfl, hb, hg, _⟩
  · exact ⟨none, 0, by rw [h0], fun hp => by omega, fun a ha => by cases ha⟩
  · refine ⟨_, _, rfl, fun hp => ⟨g, 0, rfl, fun t ht => ?_⟩, fun a ha => by cases ha; exact ⟨hb, (Array.getElem?_eq_some_iff.1 hg).1⟩⟩
    rw [Nat.zero_add, h.cellAt t (by omega)]
    simp [vb, List.getElem?_map, List.getElem?_eq_getElem ht, List.getD]

set_option maxHeartbeats 1000000 in
set_option maxRecDepth 20000 in
theorem clone_bools (ko : Option Addr) (kc : Nat) (xs : List Bool) (w : World) (h : RdB w ko xs) (hl : xs.length ≤ 1000) :
    Calls Try.prog 48 #[.slice ko xs.length kc] w fun e w' => ∃ ko' kc', e = .returned (.slice ko' xs.length kc') ∧ RdB w' ko' xs ∧ (∀ a, ko' = some a → w.heap.size ≤ a.block ∧ a.block < w'.heap.size) ∧ Below w.heap.size w w' := by
  obtain ⟨i4, hi4, hz0, hz1, hz2⟩ := info_parts info4
  have q30 := nil30
  cases ko with
  | none =>
    obtain rfl : xs = [] := by
      rcases xs with _ | ⟨a, r⟩
      · rfl
      · obtain ⟨b, off, e, _⟩ := h (by simp); cases e
    go_enter Try.func48, Try.ntmps48
    go_wp2
    go_ret
    exact ⟨none, 0, rfl, fun hp => by simp at hp, fun a ha => (by cases ha), Below.refl _ _⟩
  | some ad =>
    have HR := hid h
    have HI := hid hi4; have HZ0 := hid hz0; have HZ1 := hid hz1; have HZ2 := hid hz2
    clear h hi4 hz0 hz1 hz2
    have hnews : ∀ j u, (vb xs)[j]? = some u → (w.alloc (.cells #[] 4)).cell? (ad.add j) = some u := by
      intro j u hu
      obtain ⟨hj, rfl⟩ := vb_get hu
      obtain ⟨b, off, e, hc⟩ := HR.out (by omega)
      cases e
      rw [Addr.add_lit]
      exact keep_old (Below.alloc (Below.refl _ _) (Nat.le_refl _) _) (hc j hj)
    have HNW := hid hnews
    clear hnews
    obtain ⟨l, hll⟩ : ∃ l, l = xs.length := ⟨_, rfl⟩
    rw [← hll] at hl ⊢
    have HL := hid hll
    clear hll
    go_enter Try.func48, Try.ntmps48
    go_wp2_with ((with_reducible refine here_op 7 ?_); refine wpList_append_own_at _ rfl (.tmp 5) (.tmp 6) 30 rfl w.heap.size 4 i4 (.bool false) 1 1 Try.underlying30 HI.out HZ0.out HZ1.out HZ2.out rfl (by decide) (.slice (some ⟨w.heap.size, 0, none⟩) 0 0) 0 [] rfl (World.ownsRow_made w #[] 0 (Nat.le_refl _) (by decide) rfl) ad l kc (vb xs) rfl (by rw [HL.out]; simp [vb]) HNW.out (vb_one xs) (by unfold maxLen; omega) (by omega) (by simp) ?_; intro v1 w1 ho1 hg1 _ hloc; replace ho1 := hid ho1; replace hg1 := hid hg1)
    go_ret
    have ho := ho1.out
    rw [Nat.zero_add, List.nil_append, HL.out] at ho
    obtain ⟨ko', kc', rfl, hrd, hbk⟩ := rdB_own ho
    exact ⟨ko', kc', by rw [HL.out]; rfl, hrd, hbk, (Below.refl _ w).alloc (Nat.le_refl _) _ |>.grown hg1.out (by simp) (fun k hk => by simp [Value.ownBlock] at hk; omega)⟩

set_option maxHeartbeats 1000000 in
set_option maxRecDepth 20000 in
theorem clone_secs (ao : Option Addr) (cap : Nat) (now : List Sec) (w : World) (sn : ∀ x ∈ now, x.length = 128) (hl : now.length ≤ 100000) (h : w.ownsRow 0 80 128 (.slice ao now.length cap) now.length (secs now)) :
    Calls Try.prog 58 #[.slice ao now.length cap] w fun e w' => ∃ ao' cap', e = .returned (.slice ao' now.length cap') ∧ w'.ownsRow 0 80 128 (.slice ao' now.length cap') now.length (secs now) ∧ (∀ a, ao' = some a → w.heap.size ≤ a.block ∧ a.block < w'.heap.size) ∧ Below w.heap.size w w' := by
  obtain ⟨i0, hi, hz0, hz1, hz2⟩ := info_parts info80
  have q57 := nil57
  rcases h.2 with ⟨hv, h0⟩ | ⟨g, cap', cur, hv, hb, hg, _⟩
  · simp only [Value.slice.injEq] at hv
    obtain ⟨rfl, hn, rfl⟩ := hv
    obtain rfl : now = [] := List.eq_nil_of_length_eq_zero hn
    clear h hi hz0 hz1 hz2
    go_enter Try.func58, Try.ntmps58
    go_wp2
    go_ret
    exact ⟨none, 0, rfl, World.ownsRow_nil _ _ _ _, fun a ha => (by cases ha), Below.refl _ _⟩
  · simp only [Value.slice.injEq, true_and] at hv
    obtain ⟨rfl, rfl⟩ := hv
    have HI := hid hi; have HZ0 := hid hz0; have HZ1 := hid hz1; have HZ2 := hid hz2
    have hsl := secs_length sn
    have hnews : ∀ j u, (secs now)[j]? = some u → (w.alloc (.cells #[] 80)).cell? ((⟨g, 0, none⟩ : Addr).add j) = some u := by
      intro j u hu
      have hj : j < now.length * 128 := by rw [← hsl]; exact (List.getElem?_eq_some_iff.1 hu).1
      rw [Addr.add_lit, Nat.zero_add]
      exact keep_old (Below.alloc (Below.refl _ _) (Nat.le_refl _) _) ((h.cellAt j hj).trans hu)
    have HNW := hid hnews; have HSL := hid hsl
    clear hnews h hi hz0 hz1 hz2 hg hsl hb sn
    obtain ⟨l, hll⟩ : ∃ l, l = now.length := ⟨_, rfl⟩
    rw [← hll] at hl ⊢
    have HL := hid hll
    clear hll
    go_enter Try.func58, Try.ntmps58
    go_wp2_with ((with_reducible refine here_op 7 ?_); refine wpList_append_own_at _ rfl (.tmp 5) (.tmp 6) 57 rfl w.heap.size 80 i0 (secV noughts) 128 128 Try.underlying57 HI.out HZ0.out HZ1.out HZ2.out (by simp [secV, Value.cells, bs_length, noughts_length]) (by decide) (.slice (some ⟨w.heap.size, 0, none⟩) 0 0) 0 [] rfl (World.ownsRow_made w #[] 0 (Nat.le_refl _) (by decide) rfl) ⟨g, 0, none⟩ l cap (secs now) rfl (by rw [HSL.out, HL.out]) HNW.out (bs_one _) (by unfold maxLen; omega) (by omega) (by simp) ?_; intro v1 w1 ho1 hg1 _ hloc; replace ho1 := hid ho1; replace hg1 := hid hg1)
    go_ret
    have ho := ho1.out
    rw [Nat.zero_add, List.nil_append, HL.out] at ho
    have hbel : Below w.heap.size w w1 := ((Below.refl _ w).alloc (Nat.le_refl _) _).grown hg1.out (by simp) (fun k hk => by simp [Value.ownBlock] at hk; omega)
    rcases ho.2 with ⟨rfl, hz⟩ | ⟨g2, cap2, cur2, rfl, hb2, hg2, hrest⟩
    · refine ⟨none, 0, by rw [HL.out, hz]; rfl, ?_, fun a ha => (by cases ha), hbel⟩
      rw [HL.out, hz]
      exact ⟨by rw [ho.1, hz], Or.inl ⟨rfl, rfl⟩⟩
    · refine ⟨_, _, by rw [HL.out]; rfl, ?_, fun a ha => by cases ha; exact ⟨hb2, (Array.getElem?_eq_some_iff.1 hg2).1⟩, hbel⟩
      rw [HL.out]
      exact ⟨ho.1, Or.inr ⟨g2, cap2, cur2, rfl, Nat.zero_le _, hg2, hrest⟩⟩

theorem clone_map (b n : Nat) (D : DataW Unit) (w : World) (h : w.ownsMap Try.prog 3 secR b n D) :
    Calls Try.prog 59 #[.map (some b)] w fun e w' => e = .returned (.map (some w.heap.size)) ∧ w'.ownsMap Try.prog 3 secR w.heap.size n D ∧ Below w.heap.size w w' :=
  (AnyW.maps_Clone_owns Try.cloneM 3 secR b n D w h).mono fun _ _ ⟨he, h1, _, hb⟩ => ⟨he, h1, hb⟩

end Go.Proofs.Ytkgenmooepfhjaa
