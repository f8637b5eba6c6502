/- The document's cache: Clear; no statement of the seat is proved here. -/
import Derived.Test.YtebjjibgkjgpgaaRi
namespace Go.Proofs.Ytebjjibgkjgpgaa
open Go.RowKit Go.Maps

theorem shedL_all (p : Row → Bool) : ∀ (n : Nat) (l : List Row), l.length ≤ n → shedL p n l = l.filter (fun r => !p r)
  | n, [], _ => by rw [shedL_nil]; rfl
  | 0, r :: l, h => by simp at h
  | n + 1, r :: l, h => by
    cases hp : p r
    · rw [shed_no (by omega) hp, shedL_all p (n + 1) l (by simp at h; omega)]; simp [hp]
    · rw [shed_yes (by omega) hp, Nat.add_sub_cancel, shedL_all p n l (by simpa using h)]; simp [hp]

def pinned (q : Row × RB) : Bool := !p56 q.1
theorem filter_fst (ps : List (Row × RB)) : (ps.filter pinned).map Prod.fst = (ps.map Prod.fst).filter (fun r => !p56 r) := by
  induction ps with
  | nil => rfl
  | cons q ps ih => simp only [List.filter_cons, List.map_cons, pinned]; split <;> simp_all
theorem filter_step (ps : List (Row × RB)) (i : Nat) (hi : i < ps.length) : (ps.take (i + 1)).filter pinned = (ps.take i).filter pinned ++ (if pinned ps[i] then [ps[i]] else []) := by
  rw [List.take_add_one, List.getElem?_eq_getElem hi, List.filter_append]
  simp only [Option.toList_some, List.filter_cons, List.filter_nil]

theorem one_src (w : World) (p : Row × RB) : Src4 (w.alloc (.cells #[.int .i64 p.1.page, .slice p.2.bo 512 p.2.bc, .int .i64 (p.1.pins : Int), .bool p.1.dirty] 81)) (some ⟨w.heap.size, 0, none⟩) 1 1 [p] := by
  refine ⟨rfl, fun h => (by cases h), fun ad ha j u hu => ?_⟩
  cases ha
  have h : (w.alloc (.cells #[.int .i64 p.1.page, .slice p.2.bo 512 p.2.bc, .int .i64 (p.1.pins : Int), .bool p.1.dirty] 81)).heap[w.heap.size]? = some (.cells (rv p).toArray 81 (0, 0)) := heap_alloc_new w _
  rw [rvs_one] at hu
  rw [Addr.add_lit, Nat.zero_add, hd_cell h]
  exact hu

theorem one_src' (w : World) (p : Row × RB) (k : Nat) (hk : k = w.heap.size) : Src4 (w.alloc (.cells #[.int .i64 p.1.page, .slice p.2.bo 512 p.2.bc, .int .i64 (p.1.pins : Int), .bool p.1.dirty] 81)) (some ⟨k, 0, none⟩) 1 1 [p] := hk ▸ one_src w p

set_option maxRecDepth 20000 in
set_option maxHeartbeats 1000000 in
theorem rclear_none (m : Nat) (ao : Option Addr) (cap : Nat) (w : World) (c1 : w.cell? ⟨m, 1, none⟩ = some (.slice ao 0 cap)) (f1 : w.frozen? ⟨m, 1, none⟩ = false) :
    Calls Try.prog 39 #[.pointer (some ⟨m, 0, none⟩)] w fun e w' => e = .returned (.int .i64 0) ∧ w' = w.setCell ⟨m, 1, none⟩ (.slice none 0 0) := by
  go_enter Try.func39, Try.ntmps39
  go_wp2
  go_loopg [3, 12] 0 (fun q d c W => d = .slice none 0 0 ∧ c = .int .i64 0 ∧ W = w)
  case atStart => exact ⟨rfl, rfl, rfl⟩
  case round =>
    obtain ⟨rfl, rfl, hw⟩ := hrel
    obtain rfl := hw.symm
    go_wp2
    go_ret
    exact ⟨rfl, rfl⟩

set_option maxRecDepth 20000 in
set_option maxHeartbeats 4000000 in
theorem rclear_some (m g n cap : Nat) (ps : List (Row × RB)) (s : CS) (w : World) (h : RP w m ⟨some ⟨g, 0, none⟩, cap, ps⟩ s) (hn : ps.length ≤ 1000000) (hnn : n = ps.length) :
    Calls Try.prog 39 #[.pointer (some ⟨m, 0, none⟩)] w fun e w' => e = .returned (.int .i64 (s.cleared : Int)) ∧ ∃ R', RStep w w' m ⟨some ⟨g, 0, none⟩, cap, ps⟩ R' s.clear := by
  have c1 := h.c1
  have hsl : s.l.length = n := by rw [h.len, hnn]
  have f1 := hd_frozen h.hd 1
  have hml := h.mlt
  have HH := hid h
  simp only at c1
  rw [← hnn] at c1 hn
  have HN := hid hnn; have HSL := hid hsl
  clear h hnn hsl
  go_enter Try.func39, Try.ntmps39
  go_wp2
  go_loopg [3, 12] n (fun q d c W => ∃ (i : Nat) (ao' : Option Addr) (L cap' : Nat), i + q = n ∧ c = .int .i64 (i : Int) ∧ d = .slice ao' L cap' ∧ L ≤ i ∧ Hid (L = ((ps.take i).filter pinned).length) ∧ Hid (W.ownsRow w.heap.size 81 4 (.slice ao' L cap') L (rvs ((ps.take i).filter pinned))) ∧ Hid (Below w.heap.size w W))
  case atStart => exact ⟨0, none, 0, 0, by omega, rfl, rfl, by omega, hid rfl, hid (World.ownsRow_nil _ _ _ _), hid (Below.refl _ _)⟩
  case round =>
    obtain ⟨i, ao', L, cap', hik, rfl, rfl, hLi, HL, HO, HB⟩ := hrel
    by_cases hi : i < n
    · have hi0 : i < ps.length := by rw [← HN.out]; exact hi
      obtain ⟨g', ha, hcap, _, hgl, y0, y1, y2, y3, _⟩ := (HH.out.later HB.out).cells (i := i) hi0
      simp only [Option.some.injEq, Addr.mk.injEq, and_true] at ha
      obtain rfl := ha
      simp only at y0 y1 y2 y3 hcap
      rw [← HN.out] at hcap
      have hstep := filter_step ps i hi0
      obtain ⟨p, hp⟩ : ∃ p, p = ps[i] := ⟨_, rfl⟩
      rw [← hp] at y0 y1 y2 y3 hstep
      have hi1 : (i : Int) < (n : Int) := by omega
      have hgn : ¬ g = wr.heap.size := by omega
      have hbs := HB.out.size
      rcases Nat.eq_zero_or_pos p.1.pins with hz | hz
      · rw [hz] at y2
        simp only [Int.ofNat_zero] at y2
        have e1 : pinned p = false := by simp [pinned, p56, hz]
        rw [e1] at hstep
        have HST := hid hstep
        clear hp hi0 hstep e1
        go_wp2
        go_roundg (gk - 1)
        case measure => omega
        case rel =>
          have e2 := HST.out
          simp only [Bool.false_eq_true, if_false, List.append_nil] at e2
          refine ⟨i + 1, ao', L, cap', by omega, by simp, rfl, by omega, hid (by rw [e2]; exact HL.out), hid ?_, hid (gt HB.out (by repeat (first | with_reducible exact Below.refl _ _ | with_reducible assumption | with_reducible refine Below.drew ?_ | with_reducible refine below_drewN ?_ _ | with_reducible refine Below.alloc ?_ (by simp <;> omega) _ | with_reducible refine Below.setCell ?_ (by simp <;> omega) _)))⟩
          rw [e2]
          exact own4_later HO.out ((Below.refl _ _).alloc (Nat.le_refl _) _)
      · have e1 : pinned p = true := by simp [pinned, p56]; omega
        rw [e1] at hstep
        have HST := hid hstep
        have hz1 : 0 < p.1.pins := hz
        clear hp hi0 hstep e1
        go_wp2_with ((with_reducible refine here_op 22 ?_); refine wpList_app4B w.heap.size rfl (.tmp 19) (.tmp 21) rfl (.slice ao' L cap') L ((ps.take i).filter pinned) rfl (own4_later (own4_later HO.out ((Below.refl _ _).alloc (Nat.le_refl _) _)) ((Below.refl _ _).alloc (Nat.le_refl _) _)) _ 1 1 [p] rfl (one_src' _ p _ (by simp)) (by omega) (by simp; omega) ?_; intro a2 c2 w2 ho2 hb2; have HO2 := hid ho2; have HB2 := hid hb2; clear ho2 hb2)
        go_roundg (gk - 1)
        case measure => omega
        case rel =>
          have e2 := HST.out
          simp only [if_true] at e2
          refine ⟨i + 1, a2, L + 1, c2, by omega, by simp, rfl, by omega, hid (by rw [e2]; simp [HL.out]), hid ?_, hid ?_⟩
          · rw [e2]; exact HO2.out
          · exact HB.out.trans ((((Below.refl _ wr).alloc hbs _).alloc (by simp; omega) _).trans HB2.out)
    · obtain rfl : i = n := by omega
      have hi1 : ¬ (i : Int) < (i : Int) := by omega
      have z1 := keep_old HB.out c1
      have f2 := (keep_frozen HB.out (a := ⟨m, 1, none⟩) hml).trans f1
      have hwr : IntKind.i64.wrap ((i : Int) - (L : Int)) = (i : Int) - (L : Int) := by rw [IntWalk.i64_in _ ⟨by omega, by omega⟩]
      go_wp2
      go_ret
      have ho := HO.out
      have hl := HL.out
      rw [List.take_of_length_le (by have := HN.out; omega)] at ho hl
      have e1 : s.clear.l = (ps.filter pinned).map Prod.fst := by
        show shedL p56 s.l.length s.l = _
        rw [shedL_all _ _ _ (Nat.le_refl _), filter_fst, HH.out.ls]
      have e2 : s.cleared = i - L := by
        show s.l.length - (shedL p56 s.l.length s.l).length = _
        rw [show shedL p56 s.l.length s.l = s.clear.l from rfl, e1, List.length_map, ← hl, HSL.out]
      have hgm : ∀ a, ao' = some a → a.block ≠ m := fun a ha h0 => by have := own4_ge ho a ha; omega
      refine ⟨by rw [e2]; show Ending.returned (Value.int _ _) = _; congr 2; omega, ⟨ao', cap', ps.filter pinned⟩, ⟨?_, ?_, fun p hp => ?_, e1⟩, (Fr.of_below HB.out).set (Or.inl (Or.inl rfl)) _, fun k hk => ?_⟩
      · have q := blk_set (i := 1) (v := .slice ao' (ps.filter pinned).length cap') ((HH.out.later HB.out).hd)
        rw [hl]
        exact q
      · rw [hl] at ho
        exact row4_stay (own4_base ho (Nat.zero_le _)) (fun a ha => set_heap _ _ _ _ _ (hgm a ha))
      · have hp' : p ∈ ps := (List.mem_filter.1 hp).1
        have q := (HH.out.later HB.out).by_ p hp'
        refine row4_stay q (fun a ha => set_heap _ _ _ _ _ (fun h0 => ?_))
        obtain ⟨cur, hg, _⟩ := row4_blk q ha
        rw [h0, (HH.out.later HB.out).hd] at hg
        simp at hg
      · rcases hk with rfl | ⟨a, ha, rfl⟩
        · exact Or.inl (Or.inl rfl)
        · exact Or.inr (own4_ge ho a ha)

theorem rclear_call (m : Nat) (R : RParts) (s : CS) (w : World) (h : RP w m R s) (hn : R.ps.length ≤ 1000000) :
    Calls Try.prog 39 #[.pointer (some ⟨m, 0, none⟩)] w fun e w' => e = .returned (.int .i64 (s.cleared : Int)) ∧ ∃ R', RStep w w' m R R' s.clear := by
  rcases h.form with ⟨h1, h2⟩ | ⟨g, h1, h2⟩
  · have c1 := h.c1
    rw [h1] at c1
    refine (rclear_none m R.ao R.cap w c1 (hd_frozen h.hd 1)).mono ?_
    rintro e w' ⟨rfl, rfl⟩
    have e1 : s.clear = s := by unfold CS.clear; rw [h2]; cases s; simp only at h2; subst h2; rfl
    have e2 : s.cleared = 0 := by unfold CS.cleared; rw [h2]; rfl
    rw [e1, e2]
    refine ⟨rfl, ⟨none, 0, []⟩, ⟨?_, World.ownsRow_nil _ _ _ _, fun p hp => by simp at hp, h2⟩, (Fr.refl _ w).set (Or.inl (Or.inl rfl)) _, fun k hk => ?_⟩
    · have q := blk_set (i := 1) (v := .slice none 0 0) h.hd
      exact q
    · rcases hk with rfl | ⟨a, ha, rfl⟩
      · exact Or.inl (Or.inl rfl)
      · cases ha
  · obtain ⟨ao, cap, ps⟩ := R
    simp only at h1 h2 hn
    subst h1
    exact rclear_some m g ps.length cap ps s w h hn rfl

end Go.Proofs.Ytebjjibgkjgpgaa
