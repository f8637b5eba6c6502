/- A new cache; no statement of the seat is proved here. -/
import Derived.Test.YtebjjibgkjgpgaaCc
namespace Go.Proofs.Ytebjjibgkjgpgaa
open Go.RowKit Go.Maps

def zeroR (k : Int) : Row := ⟨k, List.replicate 512 0, 0, false⟩
def zeroE (k : Int) : Ent := ⟨zeroR k, none, none⟩

theorem wpList_build1_run {P : Program} {ops : Array Oper} {rest : List Oper} {o : Oper} {a : Act} {w : World} {Q : Exit → Act → World → Prop} (hgd : o.guard = none) (ty : TypeId) (x : Operand) (ho : o.op = .build ty #[(0, x)]) (u v : Value) (hx : a.eval x = u)
    (hrun : (Instr.build ty #[(0, u)]).run P w = .ok v w) (h : wpList P ops Q rest (a.put o.dst v) w) : wpList P ops Q (o :: rest) a w := by
  refine wpList_plain hgd fun K hK => ?_
  unfold Oper.wp
  simp [execOp, ho, hx, hrun, Result.andThen]
  exact hK _ _ h

theorem build69 (W : World) : (Instr.build 69 #[]).run Try.prog W = .ok (.agg (cellsE (zeroE 0)).toArray) W := by kernel_rfl
theorem build69p (k : Int) (W : World) : (Instr.build 69 #[(0, .int .i64 k)]).run Try.prog W = .ok (.agg (cellsE (zeroE k)).toArray) W := by kernel_rfl
theorem box69 (Z : Array Value) (W : World) : (Instr.box 69 (.agg Z)).run Try.prog W = .ok (.pointer (some ⟨W.heap.size, 0, none⟩)) (W.alloc (.cells Z 69)) := rfl

theorem ent_new (w : World) (k : Int) : EntAt (w.alloc (.cells (cellsE (zeroE k)).toArray 69)) w.heap.size (zeroE k) := ⟨heap_alloc_new w _, List.length_replicate⟩

set_option maxHeartbeats 1000000 in
theorem ring_any (w : World) : Calls Try.prog 31 #[] w fun e w' => e = .returned (.pointer (some ⟨w.heap.size, 0, none⟩)) ∧ w' = ((w.alloc (.cells (cellsE (zeroE 0)).toArray 69)).setCell ⟨w.heap.size, 515, none⟩ (.pointer (some ⟨w.heap.size, 0, none⟩))).setCell ⟨w.heap.size, 516, none⟩ (.pointer (some ⟨w.heap.size, 0, none⟩)) := by
  obtain ⟨Z, hZ⟩ : ∃ Z, Z = (cellsE (zeroE 0)).toArray := ⟨_, rfl⟩
  have hb := build69
  have he := ent_new w 0
  rw [← hZ] at hb ⊢
  obtain ⟨W, hW⟩ : ∃ W, W = w.alloc (.cells Z 69) := ⟨_, rfl⟩
  rw [← hZ, ← hW] at he
  have c1 := he.bef; have c2 := he.aft; have f1 := he.frozen 515; have f2 := he.frozen 516
  have hx : (Instr.box 69 (.agg Z)).run Try.prog w = .ok (.pointer (some ⟨w.heap.size, 0, none⟩)) W := hW ▸ box69 Z w
  have HW := hid hW
  clear he hZ
  rw [← hW]
  clear hW
  go_enter Try.func31, Try.ntmps31
  go_wp2_with (first | ((with_reducible refine here_op 2 ?_); refine wpList_build_run rfl 69 rfl _ (hb _) ?_) | ((with_reducible refine here_op 3 ?_); refine wpList_box_run rfl 69 (.tmp 2) rfl _ _ rfl _ hx ?_))
  go_ret
  exact ⟨rfl, rfl⟩

set_option maxHeartbeats 1000000 in
theorem new_no (r : Int) (w : World) (hr : r < 1 ∨ 4096 < r) : Calls Try.prog 9 #[.int .i64 r] w fun e w' => e = .returned (.pointer none) ∧ w' = w := by
  rcases Int.lt_or_le r 1 with h1 | h1
  · clear hr
    go_enter Try.func9, Try.ntmps9
    go_wp2
    go_ret
    exact ⟨rfl, rfl⟩
  · have h2 : 4096 < r := by omega
    have h3 : ¬ r < 1 := by omega
    clear hr
    go_enter Try.func9, Try.ntmps9
    go_wp2
    go_ret
    exact ⟨rfl, rfl⟩

theorem ring_world (w : World) : ∃ E, RingAt (((w.alloc (.cells (cellsE (zeroE 0)).toArray 69)).setCell ⟨w.heap.size, 515, none⟩ (.pointer (some ⟨w.heap.size, 0, none⟩))).setCell ⟨w.heap.size, 516, none⟩ (.pointer (some ⟨w.heap.size, 0, none⟩))) w.heap.size [] E := by
  have h1 := ((ent_new w 0).setBef w.heap.size).setAft w.heap.size
  refine ⟨fun _ => ((zeroE 0).wBef w.heap.size).wAft w.heap.size, fun b hb => ?_, ⟨rfl, rfl, trivial⟩, by simp⟩
  simp at hb
  subst hb
  exact h1

set_option maxHeartbeats 1000000 in
theorem new_raw (r : Nat) (w : World) (h1 : 1 ≤ r) (h2 : r ≤ 4096) (w1 : World) (h : Nat) (k : Calls Try.prog 31 #[] (w.alloc (.map #[] 0)) fun e w' => e = .returned (.pointer (some ⟨h, 0, none⟩)) ∧ w' = w1) :
    Calls Try.prog 9 #[.int .i64 (r : Int)] w fun e w' => e = .returned (.pointer (some ⟨w1.heap.size, 0, none⟩)) ∧ w' = w1.alloc (.cells (hdC w.heap.size h r 0 0).toArray 52) := by
  have hm := @run_makeMap Try.prog
  have h3 : ¬ (r : Int) < 1 := by omega
  have h4 : ¬ (4096 : Int) < (r : Int) := by omega
  have k1 := hid k
  clear k
  go_enter Try.func9, Try.ntmps9
  go_wp2_with (go_at_call 31; refine k1.out.mono ?_; rintro e w2 ⟨rfl, h0⟩; obtain rfl := h0.symm)
  go_ret
  exact ⟨rfl, rfl⟩

theorem new_yes (r : Nat) (w : World) (h1 : 1 ≤ r) (h2 : r ≤ 4096) :
    Calls Try.prog 9 #[.int .i64 (r : Int)] w fun e w' => ∃ c, e = .returned (.pointer (some ⟨c, 0, none⟩)) ∧ ∃ C, CP w' c C ⟨r, [], 0, 0⟩ ∧ C.ks = [] ∧ (∀ k, C.S c k → w.heap.size ≤ k) ∧ Below w.heap.size w w' := by
  have k := ring_any (w.alloc (.map #[] 0))
  obtain ⟨W, hW⟩ : ∃ W, W = w.alloc (.map #[] 0) := ⟨_, rfl⟩
  have hWs : W.heap.size = w.heap.size + 1 := by rw [hW]; simp
  have hWm : MapAt W w.heap.size (fun _ => none) 0 := hW ▸ MapAt.new w
  have hWb : Below w.heap.size w W := hW ▸ (Below.refl _ w).alloc (Nat.le_refl _) _
  obtain ⟨E, hE⟩ := ring_world W
  rw [← hW] at k
  obtain ⟨w1, hw1⟩ : ∃ w1, w1 = ((W.alloc (.cells (cellsE (zeroE 0)).toArray 69)).setCell ⟨W.heap.size, 515, none⟩ (.pointer (some ⟨W.heap.size, 0, none⟩))).setCell ⟨W.heap.size, 516, none⟩ (.pointer (some ⟨W.heap.size, 0, none⟩)) := ⟨_, rfl⟩
  rw [← hw1] at hE k
  have hb1 : Below W.heap.size W w1 := by
    rw [hw1]
    exact (((Below.refl _ W).alloc (Nat.le_refl _) _).setCell (p := ⟨W.heap.size, 515, none⟩) (Nat.le_refl _) _).setCell (p := ⟨W.heap.size, 516, none⟩) (Nat.le_refl _) _
  have hs1 : w1.heap.size = W.heap.size + 1 := by rw [hw1]; simp
  clear hw1
  rw [hW] at k
  refine (new_raw r w h1 h2 w1 _ k).mono ?_
  rintro e w' ⟨rfl, rfl⟩
  rw [← hW]
  have hb2 : Below w1.heap.size w1 (w1.alloc (.cells (hdC w.heap.size W.heap.size r 0 0).toArray 52)) := (Below.refl _ w1).alloc (Nat.le_refl _) _
  refine ⟨w1.heap.size, rfl, ⟨w.heap.size, W.heap.size, [], E⟩, CP.mk' (heap_alloc_new w1 _) ?_ (hE.stay (fun b hb => hb2.block b (hE.en b hb).lt)) rfl List.nodup_nil (fun r hr => by cases hr) ⟨h1, h2⟩, rfl, ?_, gt (gt hWb hb1) hb2⟩
  · exact (hWm.stay (hb1.block _ hWm.lt)).stay (hb2.block _ (by rw [hs1]; have := hWm.lt; omega))
  · rintro k (rfl | rfl | hk)
    · omega
    · exact Nat.le_refl _
    · simp at hk; subst hk; show _ ≤ W.heap.size; omega

end Go.Proofs.Ytebjjibgkjgpgaa
