/- What maps.DeleteFunc does to what is noted of a file's dirty sectors; no statement of the seat is proved here. -/
import Derived.Test.YtkgenmooepfhjaaBn
import Derived.Maps.RangeWalk
import Derived.Laws.IdiomRangeMap
import Derived.Deep.LoopGhost
namespace Go.Proofs.Ytkgenmooepfhjaa
open Go.RowKit Go.Maps

theorem box80 (x : Sec) (W : World) : (Instr.box 80 (secV x)).run Try.prog W = .ok (.pointer (some ⟨W.heap.size, 0, none⟩)) (W.alloc (.cells (bs x).toArray 80)) := by
  rfl

/-- Which sectors a cut takes. -/
def behind (n : Nat) : Lit → DataW Unit → Bool := fun kl _ => match kl with | .int _ a => decide ((n : Int) ≤ a) | _ => false

set_option maxHeartbeats 400000 in
theorem cut1_any (B n : Nat) (k : Int) (x : Sec) (W : World) (hc : W.cell? ⟨B, 0, none⟩ = some (.int .i64 (n : Int))) :
    Calls Try.prog 64 #[.int .i64 k, secV x, .pointer (some ⟨B, 0, none⟩)] W fun e w' => e = .returned (.bool (decide ((n : Int) ≤ k))) ∧ Below W.heap.size W w' := by
  obtain ⟨W1, hW1⟩ : ∃ W1, W1 = W.alloc (.cells (bs x).toArray 80) := ⟨_, rfl⟩
  have hb : Below W.heap.size W W1 := by rw [hW1]; exact (Below.refl _ _).alloc (Nat.le_refl _) _
  have hc1 := keep_old hb hc
  have bx := box80 x W
  rw [← hW1] at bx
  have BX := hid bx; have HB := hid hb
  clear bx hb hW1 hc
  go_enter Try.func64, Try.ntmps64
  go_wp2_with ((with_reducible refine here_op 4 ?_); refine wpList_box_run rfl 80 (.tmp 1) rfl (secV x) _ rfl _ BX.out ?_)
  go_ret
  exact ⟨rfl, HB.out⟩

theorem at_mem {es : List (Lit × DataW Unit)} {kl : Lit} {d : DataW Unit} (h : ∀ zd, (DataW.map es).atKey kl zd = d) : ∃ p ∈ es, p.2 = d := by
  unfold DataW.atKey at h
  cases hf : es.find? (fun p => p.1.sameKey kl) with
  | none => simp only [hf] at h; have h1 := h .nil; rw [← h (.map [])] at h1; cases h1
  | some p => simp only [hf] at h; exact ⟨p, List.mem_of_find?_eq_some hf, h .nil⟩

theorem grown_of {w w' : World} (h : Below w.heap.size w w') : w.grownBy w' none := ⟨h.os, h.tape, h.output, h.size, fun k hk _ => h.block k hk⟩

set_option maxHeartbeats 4000000 in
set_option maxRecDepth 100000 in
theorem delete_secs (dirt : List Bool) (old : List Sec) (n B b N : Nat) (w : World) (hso : ∀ i, (was old i).length = 128) (hown : w.ownsMap Try.prog 3 secR b N (dirtD dirt old)) (hc : w.cell? ⟨B, 0, none⟩ = some (.int .i64 (n : Int))) (hBb : B ≠ b) :
    Calls Try.prog 63 #[.map (some b), .func (.func 64) #[] #[.pointer (some ⟨B, 0, none⟩)]] w fun e w' => e = .returned (.tuple #[]) ∧ w'.ownsMap Try.prog 3 secR b N (Lib.deleteFuncD (behind n) (dirtD dirt old)) ∧ w.grownBy w' (some b) := by
  have K := int_keyed Try.underlying3
  obtain ⟨es0, he0, hap, hkeys⟩ := hown.entries K
  have hes : ∀ p ∈ es0, ∃ i, p.2 = secD (was old i) := by
    intro p hp
    simp only [dirtD, DataW.map.injEq] at he0
    rw [← he0] at hp
    obtain ⟨i, _, rfl⟩ := List.mem_map.1 hp
    exact ⟨i, rfl⟩
  have HES := hid hes; have HSO := hid hso; have HC := hid hc
  rw [he0] at hown ⊢
  clear hes hso hc he0
  obtain ⟨NN, hNN⟩ : ∃ N, N = (bs noughts).toArray := ⟨_, rfl⟩
  have al := alloc80
  rw [← hNN] at al
  have AL := hid al; have HN := hid hNN
  clear al hNN
  go_enter Try.func63, Try.ntmps63
  go_wp2_with (first
    | (at_range; refine wpList_range_own _ rfl _ 58 rfl 3 80 K Try.underlying58 secR b N _ rfl hown ?_; intro w0 hrg0 hg0 hs0; clear hs0)
    | go_in)
  go_frame
  go_loopw [8] (fun _ wr => ∃ (left : Lit → Bool) (cnt : Nat), wr.ranges Try.prog 3 secR b w.heap.size N (Fk (behind n) es0 left) left cnt ∧ w.grownBy wr (some b))
    (fun _ wr => wr.rangeLeft b w.heap.size)
  case atStart => exact ⟨_, _, by rw [Fk_start hkeys]; exact hrg0, hg0.but _⟩
  case round =>
    obtain ⟨left, cnt, hrg, hgw⟩ := hrel
    go_wp2_with (first
      | (at_next; refine wpList_next_ranges _ rfl _ rfl 3 K secR id id (fun key _ _ => ⟨key, rfl⟩) (fun v _ _ => ⟨v, rfl⟩) b w.heap.size N _ _ _ rfl hrg ?_ ?_)
      | go_in)
    · intro _ hl0
      go_wp2
      go_end0
      exact ⟨rfl, by rw [← Fk_end hl0]; exact hrg.owns, hgw⟩
    · intro x c kl yd yp w1 cnt1 hkey hlx hv hat hrg1 hlt hg1 hs1 hen
      clear hs1
      have hgw1 := hgw.andThen hg1 (fun j hj => by cases hj; exact Or.inl (Nat.le_refl _))
      obtain ⟨k, ex, rfl, hwk⟩ := keyOf_int_inv Try.underlying3 hkey
      (try simp only [id_eq] at ex hv hen)
      subst ex
      obtain ⟨p, hp, hpe⟩ := at_mem hat
      obtain ⟨i, hi⟩ := HES.out p (List.mem_filter.1 hp).1
      have hyd : yd = secD (was old i) := hpe.symm.trans hi
      subst hyd
      have hcv := secR_inv hv
      subst hcv
      have hl := HSO.out i
      obtain ⟨X, hX⟩ : ∃ X, X = was old i := ⟨_, rfl⟩
      rw [← hX] at hl hen
      have HX := hid hX; have HL := hid hl
      clear hp hpe hi hX hl
      have hbl := hrg1.owns.lt
      have hrl := hrg1.lt
      -- the element's own variable
      obtain ⟨w2, hw2⟩ : ∃ w2, w2 = (w1.alloc (.cells NN 80)).setRow w1.heap.size (bs X).toArray := ⟨_, rfl⟩
      have hB2 : Below w1.heap.size w1 w2 := by rw [hw2]; exact below_setRow ((Below.refl _ _).alloc (Nat.le_refl _) _) (Nat.le_refl _) _
      have hG2 : w2.heap[w1.heap.size]? = some (.cells (bs X).toArray 80 (0, 0)) := by rw [hw2]; exact setRow_heap _ _ _ _ _ _ (heap_alloc_new _ _)
      have st : (storeVar 80 ⟨w1.heap.size, 0, none⟩ (secV X)).run Try.prog (w1.alloc (.cells NN 80)) = .ok () w2 := by
        rw [hw2]; exact store80 (cur := NN.toList) HL.out (by rw [HN.out]; simp [bs_length, noughts_length]) (by rw [heap_alloc_new])
      have ld : (loadVar 80 ⟨w1.heap.size, 0, none⟩).run Try.prog w2 = .ok (secV X) w2 := load80 HL.out (fun j v hj => by
        simp only [World.cell?, Addr.add_lit, hG2, Nat.zero_add]
        simpa using hj)
      have hgw2 := hgw1.andThen (grown_of hB2) (fun j hj => by cases hj)
      have hc2 := hgw2.cell HC.out (by intro e; cases e; exact hBb rfl)
      have hc3 := hid (cut1_any B n k X w2 hc2)
      have ST := hid st; have LD := hid ld; have HB2 := hid hB2
      clear st ld hB2 hG2 hw2 hc2
      have hpd : behind n (.int .i64 k) (secD X) = decide ((n : Int) ≤ k) := rfl
      cases hpn : decide ((n : Int) ≤ k) <;> rw [hpn] at hc3 hpd
      · go_wp2_with (first
          | ((with_reducible refine here_op 5 ?_); refine wpList_alloc_run rfl 80 rfl _ _ (AL.out _) ?_)
          | ((with_reducible refine here_store 80 ?_); refine wpList_store_run rfl 80 (.tmp 5) (.tmp 12) rfl ⟨w1.heap.size, 0, none⟩ rfl (secV X) rfl _ ST.out ?_)
          | ((with_reducible refine here_op 15 ?_); refine wpList_load_run rfl 80 (.tmp 5) rfl ⟨w1.heap.size, 0, none⟩ rfl _ LD.out ?_)
          | (go_at_call 64; refine hc3.out.mono ?_; rintro e w3 ⟨rfl, hg3⟩; replace hg3 := hid hg3))
        have hg3' := grown_of (gt HB2.out hg3.out)
        have hrg2 := hrg1.kept hg3' (by simp) (by simp)
        go_roundw
        case rel => exact ⟨_, cnt1, by rw [← Fk_stays hap (K.key hkey) hlx (by rw [← HX.out]; exact hpd) hat]; exact hrg2, hgw1.andThen hg3' (fun j hj => by cases hj)⟩
        case measure => rw [hrg2.left_eq, hrg.left_eq]; exact hlt
      · go_wp2_with (first
          | ((with_reducible refine here_op 5 ?_); refine wpList_alloc_run rfl 80 rfl _ _ (AL.out _) ?_)
          | ((with_reducible refine here_store 80 ?_); refine wpList_store_run rfl 80 (.tmp 5) (.tmp 12) rfl ⟨w1.heap.size, 0, none⟩ rfl (secV X) rfl _ ST.out ?_)
          | ((with_reducible refine here_op 15 ?_); refine wpList_load_run rfl 80 (.tmp 5) rfl ⟨w1.heap.size, 0, none⟩ rfl _ LD.out ?_)
          | (go_at_call 64; refine hc3.out.mono ?_; rintro e w3 ⟨rfl, hg3⟩; replace hg3 := hid hg3; have hg3' := hid (grown_of (gt HB2.out hg3.out)); have hrg2 := hrg1.kept hg3'.out (by simp) (by simp))
          | (at_delete; refine wpList_delete_ranges _ rfl _ _ 58 3 rfl 80 K Try.underlying58 secR b w.heap.size N _ _ _ rfl hrg2 _ _ rfl hkey ?_; intro w4 cnt4 hrg4 hle hturn; go_frame))
        rw [strike_twice] at hrg4
        go_roundw
        case rel => exact ⟨_, cnt4, by rw [← Fk_struck hap (K.key hkey) hlx (by rw [← HX.out]; exact hpd) hat]; exact hrg4, (hgw1.andThen hg3'.out (fun j hj => by cases hj)).andThen hturn.grown (fun j hj => by cases hj; exact Or.inr rfl)⟩
        case measure => rw [hrg4.left_eq, hrg.left_eq]; omega

end Go.Proofs.Ytkgenmooepfhjaa
