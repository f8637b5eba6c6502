/- The document's cache: Order; no statement of the seat is proved here. -/
import Derived.Test.YtebjjibgkjgpgaaRf
namespace Go.Proofs.Ytebjjibgkjgpgaa
open Go.RowKit Go.Maps

/-- 'append' of one number onto a row of one's own. -/
theorem wpList_app33 {w : World} {ops : Array Oper} {rest : List Oper} {o : Oper} {a : Act} {Q : Exit → Act → World → Prop} (hgd : o.guard = none) (s x : Operand)
    (ho : o.op = .call { callee := .builtin .append, args := #[s, x], argTypes := #[33, 33] }) (B : Nat) (v : Value) (n : Nat) (xs : List Int) (hs : a.eval s = v) (hown : w.ownsRow B 3 1 v n (ints xs))
    (ad : Addr) (z : Int) (hx : a.eval x = .slice (some ad) 1 1) (hat : w.cell? ad = some (.int .i64 z)) (hn : n ≤ 1000000) (hB : B ≤ w.heap.size)
    (h : ∀ ao' c' w', w'.ownsRow B 3 1 (.slice ao' (n + 1) c') (n + 1) (ints (xs ++ [z])) → Below B w w' → wpList Try.prog ops Q rest (a.put o.dst (.slice ao' (n + 1) c')) w') : wpList Try.prog ops Q (o :: rest) a w := by
  refine wpList_plain hgd fun K hK => ?_
  obtain ⟨i, hi, hz0, hz1, hz2⟩ := info_parts info3
  obtain ⟨v', w', hr, h2, h3, -, -⟩ := run_append_own_at (P := Try.prog) w B 33 o.type 3 i (.int .i64 0) 1 8 Try.u33 hi hz0 hz1 hz2 rfl (by decide) v n (ints xs) hown ad 1 1 [.int .i64 z] rfl
    (fun j u hu => by
      cases j with
      | zero =>
        simp at hu; subst hu
        obtain ⟨b, off, sp⟩ := ad
        have hsp : sp = none := World.cell?_spot hat
        subst hsp
        rw [Addr.add_lit]; exact hat
      | succ j => simp at hu) (by simp [Value.oneCell']) (by unfold maxLen; omega) (by omega) hB
  obtain ⟨ao', c', rfl⟩ := row_slice h2
  unfold Oper.wp execOp
  simp only [ho, resolve, invoke, builtin, Sem.run_bind, Sem.run_pure, Result.andThen_ok, List.map_toArray, List.map_cons, List.map_nil, hs, hx, hr]
  refine hK _ _ (h ao' c' w' (by rw [show ints (xs ++ [z]) = ints xs ++ [.int .i64 z] by simp [ints]]; exact h2) ((Below.refl B w).grown h3 hB fun k hk => (hown.lt k hk).1))

set_option maxRecDepth 20000 in
set_option maxHeartbeats 1000000 in
theorem rorder_none (m : Nat) (ao : Option Addr) (cap : Nat) (w : World) (c1 : w.cell? ⟨m, 1, none⟩ = some (.slice ao 0 cap)) :
    Calls Try.prog 40 #[.pointer (some ⟨m, 0, none⟩)] w fun e w' => e = .returned (.slice none 0 0) ∧ Below w.heap.size w w' := by
  go_enter Try.func40, Try.ntmps40
  go_wp2
  go_loopg [3, 11] 0 (fun q d c W => d = .slice none 0 0 ∧ c = .int .i64 0 ∧ Hid (Below w.heap.size w W))
  case atStart => exact ⟨rfl, rfl, hid (Below.refl _ _)⟩
  case round =>
    obtain ⟨rfl, rfl, HB⟩ := hrel
    go_wp2
    go_ret
    exact ⟨rfl, HB.out⟩

set_option maxRecDepth 20000 in
set_option maxHeartbeats 2000000 in
theorem rorder_some (m g n cap : Nat) (ps : List (Row × RB)) (s : CS) (w : World) (h : RP w m ⟨some ⟨g, 0, none⟩, cap, ps⟩ s) (hn : ps.length ≤ 1000000) (hnn : n = ps.length) :
    Calls Try.prog 40 #[.pointer (some ⟨m, 0, none⟩)] w fun e w' => Told (s.l.map Row.page) w e w' := by
  have c1 := h.c1
  have hsl : s.l.length = n := by rw [h.len, hnn]
  have HH := hid h
  simp only at c1
  rw [← hnn] at c1 hn
  have HN := hid hnn; have HSL := hid hsl
  clear h hnn hsl
  go_enter Try.func40, Try.ntmps40
  go_wp2
  go_loopg [3, 11] n (fun q d c W => ∃ (i : Nat) (ao' : Option Addr) (cap' : Nat), i + q = n ∧ c = .int .i64 (i : Int) ∧ d = .slice ao' i cap' ∧ Hid (W.ownsRow w.heap.size 3 1 (.slice ao' i cap') i (ints ((s.l.map Row.page).take i))) ∧ Hid (Below w.heap.size w W))
  case atStart => exact ⟨0, none, 0, by omega, rfl, rfl, hid (World.ownsRow_nil _ _ _ _), hid (Below.refl _ _)⟩
  case round =>
    obtain ⟨i, ao', cap', hik, rfl, rfl, HO, HB⟩ := hrel
    by_cases hi : i < n
    · have hi0 : i < ps.length := by rw [← HN.out]; exact hi
      have hi2 : i < s.l.length := by rw [HSL.out]; exact hi
      obtain ⟨g', ha, hcap, _, hgl, y0, y1, y2, y3, _⟩ := (HH.out.later HB.out).cells (i := i) hi0
      simp only [Option.some.injEq, Addr.mk.injEq, and_true] at ha
      obtain rfl := ha
      have hpg : ps[i].1.page = s.l[i].page := by simp only [HH.out.ls, List.getElem_map]
      simp only at y0 y1 y2 y3 hcap
      rw [hpg] at y0
      rw [← HN.out] at hcap
      obtain ⟨p, hp⟩ : ∃ p, p = s.l[i].page := ⟨_, rfl⟩
      obtain ⟨bo, hbo⟩ : ∃ b, b = ps[i].2.bo := ⟨_, rfl⟩
      obtain ⟨bc, hbc⟩ : ∃ b, b = ps[i].2.bc := ⟨_, rfl⟩
      obtain ⟨pn, hpn⟩ : ∃ b, b = ps[i].1.pins := ⟨_, rfl⟩
      obtain ⟨di, hdi⟩ : ∃ b, b = ps[i].1.dirty := ⟨_, rfl⟩
      rw [← hp] at y0; rw [← hbo, ← hbc] at y1; rw [← hpn] at y2; rw [← hdi] at y3
      have HP := hid hp; have HI2 := hid hi2
      have hi1 : (i : Int) < (n : Int) := by omega
      have hgn : ¬ g = wr.heap.size := by omega
      have hbs := HB.out.size
      clear hp hpg hbo hbc hpn hdi hi0
      go_wp2_with ((with_reducible refine here_op 19 ?_); refine wpList_app33 rfl (.tmp 15) (.tmp 18) rfl w.heap.size (.slice ao' i cap') i _ rfl (ownsRow_later (ownsRow_later HO.out ((Below.refl _ _).alloc (Nat.le_refl _) _)) ((Below.refl _ _).alloc (Nat.le_refl _) _)) _ p rfl (by rw [World.cell?_alloc_at _ _ _ _ (by simp)]; rfl) (by omega) (by simp; omega) ?_; intro a2 c2 w2 ho2 hb2; have HO2 := hid ho2; have HB2 := hid hb2; clear ho2 hb2)
      go_roundg (gk - 1)
      case measure => omega
      case rel =>
        refine ⟨i + 1, a2, c2, by omega, by simp, rfl, hid ?_, hid ?_⟩
        · have q := HO2.out
          have e1 : (s.l.map Row.page).take (i + 1) = (s.l.map Row.page).take i ++ [p] := by
            rw [List.take_add_one, List.getElem?_map, List.getElem?_eq_getElem HI2.out, HP.out]; rfl
          rw [e1]; exact q
        · exact HB.out.trans ((((Below.refl _ wr).alloc hbs _).alloc (by simp; omega) _).trans HB2.out)
    · obtain rfl : i = n := by omega
      have hi1 : ¬ (i : Int) < (i : Int) := by omega
      go_wp2
      go_ret
      have e1 : (s.l.map Row.page).length = i := by simp [HSL.out]
      have q := HO.out
      rw [List.take_of_length_le (by omega)] at q
      exact ⟨ao', cap', by rw [e1]; rfl, by rw [e1]; exact q, HB.out⟩

theorem rorder_call (m : Nat) (R : RParts) (s : CS) (w : World) (h : RP w m R s) (hn : R.ps.length ≤ 1000000) :
    Calls Try.prog 40 #[.pointer (some ⟨m, 0, none⟩)] w fun e w' => Told (s.l.map Row.page) w e w' := by
  rcases h.form with ⟨h1, h2⟩ | ⟨g, h1, h2⟩
  · have c1 := h.c1
    rw [h1] at c1
    rw [h2]
    refine (rorder_none m R.ao R.cap w c1).mono ?_
    rintro e w' ⟨rfl, hb⟩
    exact ⟨none, 0, rfl, World.ownsRow_nil _ _ _ _, hb⟩
  · obtain ⟨ao, cap, ps⟩ := R
    simp only at h1 h2 hn
    subst h1
    exact rorder_some m g ps.length cap ps s w h hn rfl

end Go.Proofs.Ytebjjibgkjgpgaa
